/-
  The walk of parts of the program's charts: all blocks with their pieces.
-/
import Derived.Test.YtbfpcolkbfljoaaDoorBPrs
namespace Go.Proofs.YtbfpcolkbfljoaaDoor
open Go.RowKit Go.Maps

/-- The places of the roots. -/
def BP (β : Nat → Nat) (Q : List Nat) (bp : Nat → Option Nat) : Prop := ∀ j, j < (rts β Q).length → bp ((rts β Q).getD j 0) = some j
theorem rts_asc {β : Nat → Nat} {Q : List Nat} (h : Q.Pairwise (· < ·)) : (rts β Q).Pairwise (· < ·) := h.filter _
theorem getD_ne {L : List Nat} (h : L.Pairwise (· < ·)) {i j : Nat} (hi : i < L.length) (hj : j < L.length) (hij : i ≠ j) : L.getD i 0 ≠ L.getD j 0 := by
  rw [List.getD_eq_getElem?_getD, List.getD_eq_getElem?_getD, List.getElem?_eq_getElem hi, List.getElem?_eq_getElem hj, Option.getD_some, Option.getD_some]
  rcases Nat.lt_or_ge i j with e | e
  · exact Nat.ne_of_lt (List.pairwise_iff_getElem.1 h i j hi hj e)
  · exact Nat.ne_of_gt (List.pairwise_iff_getElem.1 h j i hj hi (by omega))
theorem getD_snoc {L : List Nat} {y j : Nat} : (L ++ [y]).getD j 0 = if j = L.length then y else L.getD j 0 := by
  by_cases e : j < L.length
  · rw [if_neg (by omega), getD_app e]
  · by_cases e' : j = L.length
    · subst e'; rw [if_pos rfl, List.getD_eq_getElem?_getD, List.getElem?_append_right (Nat.le_refl _)]; simp
    · rw [if_neg e', List.getD_eq_getElem?_getD, List.getD_eq_getElem?_getD, List.getElem?_eq_none (by simp; omega), List.getElem?_eq_none (by omega)]
/-- A root comes: it is a new part, without pieces as yet. -/
theorem root_step {β : Nat → Nat} {Q : List Nat} {q : Nat} (hb : ∀ z, z ∈ Q → β z ≤ z) (hq : β q = q) (hlt : ∀ z, z ∈ Q → z < q) :
    rts β (Q ++ [q]) = rts β Q ++ [q] ∧ ∀ k, k < (rts β Q).length + 1 → ((if k = (rts β Q).length then q else (rts β Q).getD k 0) = (rts β (Q ++ [q])).getD k 0 ∧ (if k = (rts β Q).length then [] else pof β Q ((rts β Q).getD k 0)) = pof β Q ((rts β (Q ++ [q])).getD k 0)) := by
  have e := rts_root (Q := Q) hq
  refine ⟨e, fun k hk => ?_⟩
  rw [e, getD_snoc]
  refine ⟨rfl, ?_⟩
  split
  · rw [pof_nil]
    intro z hz h
    have := hb z hz
    have := hlt z hz
    omega
  · rfl
theorem BP.root {β : Nat → Nat} {Q : List Nat} {q : Nat} {bp : Nat → Option Nat} (h : BP β Q bp) (hq : β q = q) (hlt : ∀ z, z ∈ Q → z < q) : BP β (Q ++ [q]) (updN bp q (rts β Q).length) := by
  intro j hj
  rw [rts_root hq] at hj ⊢
  rw [getD_snoc]
  split
  · rename_i e; subst e; exact upd_same _ _ _
  · rename_i e
    simp at hj
    have hm := (mem_rts.1 (getD_memN (show j < (rts β Q).length by omega))).1
    rw [upd_other _ _ (Nat.ne_of_lt (hlt _ hm))]
    exact h j (by omega)
/-- The piece goes to the part of its root. -/
theorem piece_step {β : Nat → Nat} {Q : List Nat} {q j0 : Nat} (hA : (Q ++ [q]).Pairwise (· < ·)) (hj : j0 < (rts β (Q ++ [q])).length) (hv : (rts β (Q ++ [q])).getD j0 0 = β q) (k : Nat) (hk : k < (rts β (Q ++ [q])).length) :
    (if k = j0 then pof β Q ((rts β (Q ++ [q])).getD j0 0) ++ [q] else pof β Q ((rts β (Q ++ [q])).getD k 0)) = pof β (Q ++ [q]) ((rts β (Q ++ [q])).getD k 0) := by
  split
  · rename_i e; subst e; rw [pof_yes hv.symm]
  · rename_i e
    rw [pof_no]
    rw [← hv]
    exact fun h => getD_ne (rts_asc hA) hj hk (Ne.symm e) h
theorem infoP : ∃ i, Tryd.prog.info? 47 = some i ∧ i.zero = some (.agg #[.int .i64 0, .slice none 0 0]) ∧ i.size = 2 ∧ i.bytes = 32 := by
  have h : (Tryd.prog.info? 47).map (fun i => (i.zero, i.size, i.bytes)) = some (some (.agg #[.int .i64 0, .slice none 0 0]), 2, 32) := by kernel_rfl
  revert h
  cases Tryd.prog.info? 47 with
  | none => intro h; cases h
  | some i => intro h; simp at h; exact ⟨i, rfl, h.1, h.2.1, h.2.2⟩

/-- The memory of parts below its list. -/
structure Lw (d : Rl) (fv : Value) (M N B1 : Nat) (b bp : Nat → Option Nat) (Q : List Nat) (la : Option Addr) (w wr : World) : Prop where
  kp : Kp M w wr
  cb : CB d fv (.map (some M)) w.heap.size wr
  mv : MV vI M (8 * d.n) b wr
  mp : MV vI N (8 * d.n) bp wr
  ints : Ints wr la Q.length (fun j => ((Q.getD j 0 : Nat) : Int))
  ne : 0 < Q.length → ∀ b off, la = some ⟨b, off, none⟩ → N < b ∧ b < B1
  o1 : M < w.heap.size ∧ w.heap.size < N ∧ N < B1 ∧ B1 ≤ wr.heap.size
section
variable {d : Rl} {fv : Value} {M N B1 : Nat} {b bp b' bp' : Nat → Option Nat} {Q : List Nat} {la : Option Addr} {w wr w' : World}
theorem Lw.lift (h : Lw d fv M N B1 b bp Q la w wr) (hH : Has d w) (hn : Ne d M) (k : Below B1 wr w') : Lw d fv M N B1 b bp Q la w w' := by
  have o := h.o1
  have kp : Kp M w w' := ⟨k.os.trans h.kp.os, k.tape.trans h.kp.tape, k.output.trans h.kp.output, Nat.le_trans h.kp.size k.size, fun i hi hn => (k.block i (by omega)).trans (h.kp.block i hi hn)⟩
  refine ⟨kp, h.cb.lift k (by omega) (hH.kp hn kp), h.mv.same (k.block M (by omega)), h.mp.same (k.block N (by omega)), fun j hj => ?_, h.ne, o.1, o.2.1, o.2.2.1, by have := k.size; omega⟩
  obtain ⟨c, off, e, hz, hc⟩ := h.ints j hj
  exact ⟨c, off, e, by have := k.size; omega, (k.cell (p := ⟨c, off + j, none⟩) (h.ne (by omega) c off e).2).trans hc⟩
theorem Lw.stays (h : Lw d fv M N B1 b bp Q la w wr) (hH : Has d w) (hn : Ne d M) (k : Below wr.heap.size wr w') : Lw d fv M N B1 b bp Q la w w' := h.lift hH hn (k.mono h.o1.2.2.2)
theorem Lw.kM (h : Lw d fv M N B1 b bp Q la w wr) (hn : Ne d M) (k : Kp M wr w') (hm : MV vI M (8 * d.n) b' w') : Lw d fv M N B1 b' bp Q la w w' := by
  have o := h.o1
  have kp := h.kp.trans k
  exact ⟨kp, h.cb.kp hn (by omega) k, hm, h.mp.same (k.block N (by omega) (by omega)), h.ints.keep (fun hq c off e => by have := h.ne hq c off e; omega) k, h.ne, o.1, o.2.1, o.2.2.1, by have := k.size; omega⟩
theorem Lw.kN (h : Lw d fv M N B1 b bp Q la w wr) (hH : Has d w) (hn : Ne d M) (k : Kp N wr w') (hm : MV vI N (8 * d.n) bp' w') : Lw d fv M N B1 b bp' Q la w w' := by
  have o := h.o1
  have kp : Kp M w w' := ⟨k.os.trans h.kp.os, k.tape.trans h.kp.tape, k.output.trans h.kp.output, Nat.le_trans h.kp.size k.size, fun i hi hn => (k.block i (by omega) (by omega)).trans (h.kp.block i hi hn)⟩
  exact ⟨kp, h.cb.lift (k.under (by omega)) (by omega) (hH.kp hn kp), h.mv.same (k.block M (by omega) (by omega)), hm, h.ints.keep (fun hq c off e => by have := h.ne hq c off e; omega) k, h.ne, o.1, o.2.1, o.2.2.1, by have := k.size; omega⟩
end
theorem grow_below {B1 n size : Nat} {e : TypeId} {v : Value} {xs : List Value} {w w' : World} {o : Obj} (h : w.ownsRow B1 e size v n xs) (hz : B1 ≤ w.heap.size) (hg : (w.alloc o).grownBy w' v.ownBlock) : Below B1 w w' :=
  ((Below.refl _ w).alloc hz o).grown hg (by simp; omega) (fun k hk => (h.lt k hk).1)
theorem pl_small {β : Nat → Nat} {Q Qk : List Nat} {q k r pl : Nat} (hpl : pl = (pof β Qk r).length) (hQ : Q.length ≤ 10000) (h : Q.take (k + 1) = Qk ++ [q]) : pl ≤ 10000 := by
  rw [hpl]
  have h1 := pof_len (β := β) (Q := Qk) (r := r)
  have h2 : (Q.take (k + 1)).length ≤ Q.length := by rw [List.length_take]; omega
  have h3 := congrArg List.length h
  rw [List.length_append] at h3
  omega
/-- What parts hands back, and leaves in the map. -/
def PartsIs (d : Rl) (C : Int → Int → Int → Bool) (M : Nat) (b : Nat → Option Nat) (w : World) (r : Ending) (w' : World) : Prop :=
  ∃ lst, r = .returned lst ∧ Parts (blk d C) (allp d) w.heap.size lst w' ∧ Kp M w w' ∧ ∃ b', MV vI M (8 * d.n) b' w' ∧ Val d C b' ∧ ∀ u z, b u = some z → b' u = some z

set_option maxRecDepth 20000 in
set_option maxHeartbeats 25600000 in
theorem parts_any (d : Rl) (hg : Gd d) (M : Nat) (hne : Ne d M) (b : Nat → Option Nat) (hb : Val d (cutB d) b) (w : World) (hH : Has d w) (hm : MV vI M (8 * d.n) b w) :
    Calls Tryd.prog 67 #[d.cht (.func (.func 79) #[d.ls] #[]) (.map (some M))] w (PartsIs d (cutB d) M b w) := by
  have hsm := hg.small
  obtain ⟨fv, hfv⟩ : ∃ fv : Value, fv = .func (.func 79) #[d.ls] #[] := ⟨_, rfl⟩
  have HBL := hid (fun x v (hx : Pl d x) (hv : Blk d (cutB d) x v) b (hb : Val d (cutB d) b) w hH hm => block_any d hg M x v hx hv hne b hb w hH hm)
  rw [← hfv] at HBL ⊢
  have HPC := hid (fun w hH => pieces_any d hg fv (.map (some M)) w hH)
  obtain ⟨β, hβ⟩ : ∃ β, β = blk d (cutB d) := ⟨_, rfl⟩
  have HBT : Hid (∀ x, Pl d x → Blk d (cutB d) x (β x) ∧ β x ≤ x ∧ β (β x) = β x ∧ Pl d (β x)) := hid (fun x hx => by
    subst hβ
    have h := blk_is d (cutB d) x
    exact ⟨h, h.le, (h.self hg hx).eq.symm, h.pl hx⟩)
  obtain ⟨Q, hQ⟩ : ∃ Q, Q = allp d := ⟨_, rfl⟩
  have HQQ := hid hQ
  have hQl : Q.length ≤ 10000 := by rw [hQ]; have := allp_len d; omega
  have HQM : Hid (∀ y, y ∈ Q ↔ Pl d y) := hid (fun y => by rw [hQ]; exact mem_allp)
  have HQA : Hid (Q.Pairwise (· < ·)) := hid (by rw [hQ]; exact pcs_asc _ _ _)
  obtain ⟨S, hS⟩ : ∃ S, S = 8 * d.n := ⟨_, rfl⟩
  have hS2 : S ≤ 100000 := by omega
  have HSQ := hid hS
  have hML := hm.lt
  have hB1 := Joins.below_alloc2 w (.cells #[.int .i64 d.W, .int .i64 d.H, d.as, d.bs, fv, .map (some M)] 101) (.map #[] 0)
  have hCB := (CB.start (fv := fv) (mp := .map (some M)) hH).stays (Joins.below_alloc1 _ (.map #[] 0))
  have hm1 := hm.same (hB1.block M hML)
  have hmp := MV.start vI (8 * d.n) (w.alloc (.cells #[.int .i64 d.W, .int .i64 d.H, d.as, d.bs, fv, .map (some M)] 101))
  have HV := hid (And.intro hB1 (And.intro hCB (And.intro hm1 (And.intro hmp (show w.heap.size + 1 < ((w.alloc (.cells #[.int .i64 d.W, .int .i64 d.H, d.as, d.bs, fv, .map (some M)] 101)).alloc (.map #[] 0)).heap.size by simp)))))
  have HIN := hid infoX
  have HIP := hid infoP
  have HHH := hid hH
  have HNE := hid hne
  have HB := hid hb
  have HG := hid hg
  have hmm := @run_makeMap Tryd.prog
  have HBE := hid hβ
  clear hfv hQ hS hB1 hCB hm1 hmp hH hne hb hg hm hsm hβ
  go_enter Tryd.func67, Tryd.ntmps67
  go_upto_region 3 with fail
  simp only [World.size_alloc] at HV
  generalize World.alloc (World.alloc w _) _ = wm at HV ⊢
  have c0 := HV.out.2.1.c0; have c1 := HV.out.2.1.c1; have c2 := HV.out.2.1.c2; have c3 := HV.out.2.1.c3; have c4 := HV.out.2.1.c4; have c5 := HV.out.2.1.c5; have hz := HV.out.2.1.size
  go_wp2_with (go_at_call 103; (refine (HPC.out _ HV.out.2.1.has).mono ?_); rintro e w2 ⟨la, lc, rfl, hrow, hbw⟩; rw [← HQQ.out] at hrow)
  obtain ⟨N, hN⟩ : ∃ N, N = w.heap.size + 1 := ⟨_, rfl⟩
  have HLW : Hid (Lw d fv M N w2.heap.size b (fun _ => none) Q la w w2) := hid (by
    obtain ⟨h1, h2, h3, h4, h5⟩ := HV.out
    rw [← hN] at h4
    have h5 := h4.lt
    refine ⟨Kp.of_below (step h1 hbw), h2.stays hbw, h3.same (hbw.block M h3.lt), h4.same (hbw.block N h4.lt), ints_of_row hrow rfl, fun hq c off e => ?_, hML, by omega, by have := hbw.size; omega, Nat.le_refl _⟩
    obtain ⟨g, cc, e', q1, q2⟩ := hrow.form hq
    cases e'
    cases e
    exact ⟨by omega, q2⟩)
  obtain ⟨B1, hB1⟩ : ∃ B1, B1 = w2.heap.size := ⟨_, rfl⟩
  rw [← hB1] at HLW
  simp only [← HQQ.out, ← hN]
  have HN := hid hN
  clear hbw hrow HV c0 c1 c2 c3 c4 c5 hz hB1 hN hmm
  go_loopw [3, 13] (fun lst iv wr => ∃ (k : Nat) (b1 bp : Nat → Option Nat) (vs : Nat → Value), k ≤ Q.length ∧ iv = .int .i64 k ∧ Hid (Val d (cutB d) b1 ∧ (∀ u z, b u = some z → b1 u = some z) ∧ BP β (Q.take k) bp) ∧ Hid (Lw d fv M N B1 b1 bp Q la w wr) ∧ Hid (Prs B1 (rts β (Q.take k)).length (fun j => (rts β (Q.take k)).getD j 0) (fun j => pof β (Q.take k) ((rts β (Q.take k)).getD j 0)) vs lst wr)) (fun _ iv _ => Q.length - (intOf iv).toNat)
  case atStart => exact ⟨0, b, _, fun _ => .slice none 0 0, Nat.zero_le _, rfl, hid ⟨HB.out, fun u z h => h, fun j hj => by simp [rts] at hj⟩, HLW, hid (by rw [List.take_zero]; exact Prs.start _ _ _ _ _)⟩
  case round =>
    clear HLW
    obtain ⟨k, b1, bp, vs, hk, rfl, HB1, HLW, HPR⟩ := hrel
    by_cases hlt : k < Q.length
    · obtain ⟨q, hq⟩ : ∃ q, q = Q.getD k 0 := ⟨_, rfl⟩
      obtain ⟨lb, loff, hla, hlz, hlc⟩ := HLW.out.ints k hlt
      subst hla
      dsimp only at hlc
      rw [← hq] at hlc
      have hqQ : q ∈ Q := by rw [hq]; exact getD_memN hlt
      have hqP := (HQM.out q).1 hqQ
      have htk : Q.take (k + 1) = Q.take k ++ [q] := by rw [take_snoc 0 hlt, hq]
      obtain ⟨Qk, hQk⟩ : ∃ Qk, Qk = Q.take k := ⟨_, rfl⟩
      have hlast : ∀ z, z ∈ Qk → z < q := fun z hz => by
        have h : (Q.take (k + 1)).Pairwise (· < ·) := HQA.out.sublist (List.take_sublist _ _)
        rw [htk, ← hQk] at h
        exact (List.pairwise_append.1 h).2.2 z hz q (by simp)
      have hasc : (Qk ++ [q]).Pairwise (· < ·) := by rw [hQk, ← htk]; exact HQA.out.sublist (List.take_sublist _ _)
      have hin : ∀ z, z ∈ Q → z < q → z ∈ Qk := fun z hz hzq => by
        have h : Q = Q.take (k + 1) ++ Q.drop (k + 1) := (List.take_append_drop _ _).symm
        have h2 := HQA.out
        rw [h] at h2 hz
        rcases List.mem_append.1 hz with hz | hz
        · rw [htk, ← hQk] at hz
          simp at hz
          rcases hz with hz | hz
          · exact hz
          · omega
        · have := (List.pairwise_append.1 h2).2.2 q (by rw [htk]; simp) z hz
          omega
      have hQP : ∀ z, z ∈ Qk → Pl d z := fun z hz => (HQM.out z).1 (by rw [hQk] at hz; exact List.mem_of_mem_take hz)
      rw [← hQk] at HB1 HPR htk
      obtain ⟨v, hv⟩ : ∃ v, v = β q := ⟨_, rfl⟩
      have hbt := HBT.out q hqP
      rw [← hv] at hbt
      have HBK := hid (HBL.out q v hqP hbt.1 b1 HB1.out.1)
      have hqS : q < S := by rw [HSQ.out]; exact hqP.lt
      have hvS : v < S := by omega
      have HF := hid (And.intro hlast (And.intro hasc (And.intro hin (And.intro hQP (And.intro htk (And.intro hv hbt))))))
      have hk' : (k : Int) < ((Q.length : Nat) : Int) := by omega
      have c0 := HLW.out.cb.c0; have c1 := HLW.out.cb.c1; have c2 := HLW.out.cb.c2; have c3 := HLW.out.cb.c3; have c4 := HLW.out.cb.c4; have c5 := HLW.out.cb.c5; have hz := HLW.out.cb.size
      have HOO : Hid (M < B1 ∧ N < B1) := hid (by have := HLW.out.o1; omega)
      clear hq hqQ htk hlast hasc hin hQP hv hbt hQk
      obtain ⟨Q1, hQ1⟩ : ∃ Q1, Q1 = Qk ++ [q] := ⟨_, rfl⟩
      obtain ⟨nn, hnn⟩ : ∃ nn, nn = (rts β Q1).length := ⟨_, rfl⟩
      obtain ⟨n, hn⟩ : ∃ n, n = (rts β Qk).length := ⟨_, rfl⟩
      have hnl : n ≤ 10000 := by
        rw [hn]
        have h1 : (rts β Qk).length ≤ Qk.length := rts_len
        have h2 : (Q.take (k + 1)).length ≤ Q.length := by rw [List.length_take]; omega
        have h3 := congrArg List.length HF.out.2.2.2.2.1
        rw [List.length_append] at h3
        omega
      rw [← hn] at HPR
      obtain ⟨ga, gc, hu⟩ := slice_of_row HPR.out.row
      subst hu
      have HVA : Hid (v ∈ Q1 ∧ β v = v) := hid (by
        obtain ⟨h1, h2, h3, h4, h5, h6, h7⟩ := HF.out
        refine ⟨?_, h7.2.2.1⟩
        rw [hQ1]
        by_cases e : v = q
        · simp [e]
        · have := h3 v ((HQM.out v).2 h7.2.2.2) (by have := h7.2.1; omega)
          simp [this])
      have HJ0 : Hid (∃ j0, j0 < nn ∧ (rts β Q1).getD j0 0 = v) := hid (by
        obtain ⟨j, hj, e⟩ := List.getElem_of_mem (mem_rts.2 HVA.out)
        exact ⟨j, by rw [hnn]; exact hj, by rw [List.getD_eq_getElem?_getD, List.getElem?_eq_getElem hj, Option.getD_some, e]⟩)
      have HEND := hid (fun (j0 : Nat) (hj0 : j0 < nn) (hjv : (rts β Q1).getD j0 0 = v) (i : Nat) (hi : i < nn) => piece_step (β := β) (Q := Qk) (q := q) (j0 := j0) HF.out.2.1 (by rw [← hQ1, ← hnn]; exact hj0) (by rw [← hQ1, hjv]; exact HF.out.2.2.2.2.2.1) i (by rw [← hQ1, ← hnn]; exact hi))
      have HTK : Hid (Q.take (k + 1) = Q1) := hid (by rw [hQ1]; exact HF.out.2.2.2.2.1)
      have HE := hid (And.intro hQ1 (And.intro hnn hn))
      clear hQ1 hnn
      by_cases hroot : v = q
      · have HRS : Hid (nn = n + 1 ∧ BP β Q1 (updN bp v n) ∧ ∀ i, i < n + 1 → ((if i = n then v else (rts β Qk).getD i 0) = (rts β Q1).getD i 0 ∧ (if i = n then [] else pof β Qk ((rts β Qk).getD i 0)) = pof β Qk ((rts β Q1).getD i 0))) := hid (by
          obtain ⟨e1, e2, e3⟩ := HE.out
          obtain ⟨h1, h2, h3, h4, h5, h6, h7⟩ := HF.out
          subst hroot
          have hr := root_step (β := β) (Q := Qk) (q := v) (fun z hz => (HBT.out z (h4 z hz)).2.1) h6.symm h1
          rw [← e1, ← e3] at hr
          refine ⟨by rw [e2, hr.1, List.length_append, ← e3]; rfl, ?_, hr.2⟩
          have hbp := BP.root HB1.out.2.2 h6.symm h1
          rw [← e1, ← e3] at hbp
          exact hbp)
        subst hroot
        clear hn
        go_wp2_with (first
          | (go_at_call 69; (refine (HBK.out _ HLW.out.cb.has HLW.out.mv).mono ?_); rintro e w3 ⟨rfl, hkp, b2, hmv, hval, hb2, hext⟩; have HL3 := hid (HLW.out.kM HNE.out hkp hmv); have HP3 := hid (HPR.out.kp HOO.out.1 hkp); have HX := hid (And.intro hval (fun u z (h : b u = some z) => hext u z (HB1.out.2.1 u z h))); clear hkp hmv hval hb2 hext c0 c1 c2 c3 c4 c5 hz HLW HPR; obtain ⟨w5, hrun5, hmv5, hkp5⟩ := HL3.out.mp.put (t := v) (v := n) (by rw [← HSQ.out]; exact hS2) (by rw [← HSQ.out]; exact hvS); have HL5 := hid (HL3.out.kN HHH.out HNE.out hkp5 hmv5); have HP5 := hid (HP3.out.kp HOO.out.2 hkp5); have hz5 := HL5.out.o1; clear hmv5 hkp5)
          | (at_builtin; obtain ⟨i0, HIP'⟩ := HIP.out; refine wpList_append_lies _ rfl _ _ 39 rfl B1 47 i0 (.agg #[.int .i64 0, .slice none 0 0]) 2 32 Tryd.underlying39 HIP'.1 HIP'.2.1 HIP'.2.2.1 HIP'.2.2.2 rfl (by decide) _ _ _ rfl (HP5.out.row.alloc _) ⟨w5.heap.size, 0, none⟩ 1 1 [.int .i64 (v : Nat), .slice none 0 0] rfl rfl ?c1 ?c2 (by decide) ?c3 ?c4 ?c5 (w5.heap.size + 1) (by simp) ?_))
        case c1 =>
          intro j u hj
          match j, hj with
          | 0, hj => simp at hj; subst hj; simp [Addr.add]
          | 1, hj => simp at hj; subst hj; simp [Addr.add]
        case c2 => intro u hu; simp at hu; rcases hu with rfl | rfl <;> rfl
        case c3 => unfold maxLen; omega
        case c4 => omega
        case c5 => simp; omega
        intro gt gtc w6 hown hgrow hat hlt6
        have hbw6 := grow_below HP5.out.row hz5.2.2.2 hgrow
        have HLT := hid (HL5.out.lift HHH.out HNE.out hbw6)
        have HPU := HP5.out.push (x := v) rfl hown _ hgrow hat
        have hnn : nn = n + 1 := HRS.out.1
        have HPC := HPU.congr (ns' := fun i => (rts β Q1).getD i 0) (ps' := fun i => pof β Qk ((rts β Q1).getD i 0)) HRS.out.2.2
        obtain ⟨vt, hvt⟩ : ∃ vt, vt = updV vs n (.slice none 0 0) := ⟨_, rfl⟩
        rw [← hvt, ← hnn] at HPC
        have HPT := hid HPC
        have HBP := hid HRS.out.2.1
        rw [← hnn]
        clear hown hgrow hat hlt6 hbw6 HPU HPC hvt HP5 HL5 hz5 hrun5 HP3 HL3
        obtain ⟨j0, hj0, hjv⟩ := HJ0.out
        have hnn2 : nn ≤ 10001 := by omega
        clear hnn
        have HBJ : Hid (updN bp v n v = some j0) := hid (by have := HBP.out j0 (by rw [← HE.out.2.1]; exact hj0); rw [hjv] at this; exact this)
        have hlk := HLT.out.mp.get (t := v) (v := j0) (by rw [← HSQ.out]; exact hvS) (by rw [← HSQ.out]; exact hS2) HBJ.out
        have hcj := (HPT.out.row.cellAt (j0 * 2 + 1) (by omega)).trans (encP_get _ _ hj0).2
        obtain ⟨va, vc, hvj⟩ := slice_of_row (HPT.out.rows j0 hj0)
        obtain ⟨pl, hpl⟩ : ∃ pl, pl = (pof β Qk ((rts β Q1).getD j0 0)).length := ⟨_, rfl⟩
        rw [← hpl] at hvj
        rw [hvj] at hcj
        have HVJ := hid hvj
        have HPL := hid hpl
        have hpl2 : pl ≤ 10000 := by
          rw [hpl]
          have h1 := pof_len (β := β) (Q := Qk) (r := (rts β Q1).getD j0 0)
          have h2 : (Q.take (k + 1)).length ≤ Q.length := by rw [List.length_take]; omega
          have h3 := congrArg List.length HF.out.2.2.2.2.1
          rw [List.length_append] at h3
          omega
        have hfz := HPT.out.row.frozenAt (j0 * 2 + 1)
        have hgz := (HPT.out.row.lt gt rfl).2
        have hgB := (HPT.out.row.lt gt rfl).1
        have HROW := hid (by have := HPT.out.rows j0 hj0; rw [hvj, ← hpl] at this; exact this)
        have hlo := HLT.out.o1
        have hj0' : (j0 : Int) < (nn : Int) := (by omega)
        clear hpl hvj
        go_wp2_with (at_builtin; obtain ⟨i0, HIN'⟩ := HIN.out; refine wpList_append_lies _ rfl _ _ 22 rfl B1 3 i0 (.int .i64 0) 1 8 Tryd.underlying22 HIN'.1 HIN'.2.1 HIN'.2.2.1 HIN'.2.2.2 rfl (by decide) _ pl _ rfl (HROW.out.alloc _) ⟨w6.heap.size, 0, none⟩ 1 1 [.int .i64 (v : Nat)] rfl rfl ?d1 ?d2 (by decide) ?d3 ?d4 ?d5 (w6.heap.size + 1) (by simp) ?_)
        case d1 =>
          intro j u hj
          match j, hj with
          | 0, hj => simp at hj; subst hj; simp [Addr.add]
        case d2 => intro u hu; simp at hu; subst hu; rfl
        case d3 => unfold maxLen; omega
        case d4 => omega
        case d5 => simp; omega
        intro g3 c3 w7 hown hgrow hat hlt7
        have hnk : (Value.slice va pl vc).ownBlock ≠ some gt := fun e => HPT.out.far j0 hj0 gt (by rw [HVJ.out]; exact e) rfl
        have hq7 := grown_far hgrow hgz hnk
        have hc7 := (World.cell?_of_block (a := ⟨gt, j0 * 2 + 1, none⟩) hq7).trans hcj
        have hf7 := (World.frozen?_of_block (a := ⟨gt, j0 * 2 + 1, none⟩) hq7).trans hfz
        have hgz7 : gt < w7.heap.size := by have := hgrow.size; simp at this; omega
        have hbw7 := grow_below HROW.out hlo.2.2.2 hgrow
        have HL7 := hid (HLT.out.lift HHH.out HNE.out ((hbw7.setCell (p := ⟨gt, j0 * 2 + 1, none⟩) hgB (.slice (some ⟨g3, 0, none⟩) (pl + 1) c3))))
        have HP7 := hid (HPT.out.put (x := v) (k := j0) (c := c3) (v' := .slice (some ⟨g3, 0, none⟩) (pl + 1) c3) hj0 (by rw [HPL.out]) (by rw [← HPL.out]; exact hown) _ (by rw [HVJ.out]; exact hgrow) (by rw [HVJ.out]; exact hat))
        clear hown hgrow hat hlt7 hnk hq7 hcj hfz hbw7
        go_wp2_with fail
        go_roundw
        case rel =>
          refine ⟨k + 1, b2, _, updV vt j0 (.slice (some ⟨g3, 0, none⟩) (pl + 1) c3), by omega, by go_num, hid ⟨HX.out.1, HX.out.2, by rw [HTK.out]; exact HBP.out⟩, HL7, hid ?_⟩
          rw [HTK.out, ← HE.out.2.1]
          have hh := HP7.out.congr (ns' := fun i => (rts β Q1).getD i 0) (ps' := fun i => pof β Q1 ((rts β Q1).getD i 0)) (fun i hi => ⟨rfl, by have := HEND.out j0 hj0 hjv i hi; rw [HE.out.1]; exact this⟩)
          exact hh
        case measure => simp [intOf]; omega
      · have g0 : ((v : Int) == (q : Int)) = false := by rw [beq_eq_false_iff_ne]; omega
        have HRS : Hid (nn = n ∧ BP β Q1 bp ∧ ∀ i, i < n → ((rts β Qk).getD i 0 = (rts β Q1).getD i 0 ∧ pof β Qk ((rts β Qk).getD i 0) = pof β Qk ((rts β Q1).getD i 0))) := hid (by
          obtain ⟨e1, e2, e3⟩ := HE.out
          obtain ⟨h1, h2, h3, h4, h5, h6, h7⟩ := HF.out
          have hr : rts β Q1 = rts β Qk := by rw [e1]; exact rts_not (by rw [← h6]; exact hroot)
          exact ⟨by rw [e2, e3, hr], by unfold BP; rw [hr]; exact HB1.out.2.2, fun i _ => by rw [hr]; exact ⟨rfl, rfl⟩⟩)
        have hnn : nn = n := HRS.out.1
        subst hnn
        obtain ⟨j0, hj0, hjv⟩ := HJ0.out
        obtain ⟨gt, gtc, hgt, _, _⟩ := HPR.out.row.form (by omega)
        cases hgt
        clear hn
        have HPC := HPR.out.congr (ns' := fun i => (rts β Q1).getD i 0) (ps' := fun i => pof β Qk ((rts β Q1).getD i 0)) HRS.out.2.2
        have HBP := hid HRS.out.2.1
        clear HPR
        have HPR := hid HPC
        clear HPC
        go_wp2_with (first
          | (go_at_call 69; (refine (HBK.out _ HLW.out.cb.has HLW.out.mv).mono ?_); rintro e w3 ⟨rfl, hkp, b2, hmv, hval, hb2, hext⟩; have HL3 := hid (HLW.out.kM HNE.out hkp hmv); have HP3 := hid (HPR.out.kp HOO.out.1 hkp); have HX := hid (And.intro hval (fun u z (h : b u = some z) => hext u z (HB1.out.2.1 u z h))); clear hkp hmv hval hb2 hext c0 c1 c2 c3 c4 c5 hz HLW HPR; have HBJ : Hid (bp v = some j0) := hid (by have := HBP.out j0 (by rw [← HE.out.2.1]; exact hj0); rw [hjv] at this; exact this); have hlk := HL3.out.mp.get (t := v) (v := j0) (by rw [← HSQ.out]; exact hvS) (by rw [← HSQ.out]; exact hS2) HBJ.out; have hcj := (HP3.out.row.cellAt (j0 * 2 + 1) (by omega)).trans (encP_get _ _ hj0).2; obtain ⟨va, vc, hvj⟩ := slice_of_row (HP3.out.rows j0 hj0); obtain ⟨pl, hpl⟩ : ∃ pl, pl = (pof β Qk ((rts β Q1).getD j0 0)).length := ⟨_, rfl⟩; rw [← hpl] at hvj; rw [hvj] at hcj; have HVJ := hid hvj; have HPL := hid hpl; have hpl2 : pl ≤ 10000 := pl_small hpl hQl HF.out.2.2.2.2.1; have hfz := HP3.out.row.frozenAt (j0 * 2 + 1); have hgz := (HP3.out.row.lt gt rfl).2; have hgB := (HP3.out.row.lt gt rfl).1; have HROW := hid (by have := HP3.out.rows j0 hj0; rw [hvj, ← hpl] at this; exact this); have hlo := HL3.out.o1; have hj0' : (j0 : Int) < (nn : Int) := (by omega); clear hpl hvj)
          | (at_builtin; obtain ⟨i0, HIN'⟩ := HIN.out; refine wpList_append_lies _ rfl _ _ 22 rfl B1 3 i0 (.int .i64 0) 1 8 Tryd.underlying22 HIN'.1 HIN'.2.1 HIN'.2.2.1 HIN'.2.2.2 rfl (by decide) _ pl _ rfl (HROW.out.alloc _) ⟨w3.heap.size, 0, none⟩ 1 1 [.int .i64 (q : Nat)] rfl rfl ?d1 ?d2 (by decide) ?d3 ?d4 ?d5 (w3.heap.size + 1) (by simp) ?_))
        case d1 =>
          intro j u hj
          match j, hj with
          | 0, hj => simp at hj; subst hj; simp [Addr.add]
        case d2 => intro u hu; simp at hu; subst hu; rfl
        case d3 => unfold maxLen; omega
        case d4 => omega
        case d5 => simp; omega
        intro g3 c3 w7 hown hgrow hat hlt7
        have hnk : (Value.slice va pl vc).ownBlock ≠ some gt := fun e => HP3.out.far j0 hj0 gt (by rw [HVJ.out]; exact e) rfl
        have hq7 := grown_far hgrow hgz hnk
        have hc7 := (World.cell?_of_block (a := ⟨gt, j0 * 2 + 1, none⟩) hq7).trans hcj
        have hf7 := (World.frozen?_of_block (a := ⟨gt, j0 * 2 + 1, none⟩) hq7).trans hfz
        have hgz7 : gt < w7.heap.size := by have := hgrow.size; simp at this; omega
        have hbw7 := grow_below HROW.out hlo.2.2.2 hgrow
        have HL7 := hid (HL3.out.lift HHH.out HNE.out ((hbw7.setCell (p := ⟨gt, j0 * 2 + 1, none⟩) hgB (.slice (some ⟨g3, 0, none⟩) (pl + 1) c3))))
        have HP7 := hid (HP3.out.put (x := q) (k := j0) (c := c3) (v' := .slice (some ⟨g3, 0, none⟩) (pl + 1) c3) hj0 (by rw [HPL.out]) (by rw [← HPL.out]; exact hown) _ (by rw [HVJ.out]; exact hgrow) (by rw [HVJ.out]; exact hat))
        clear hown hgrow hat hlt7 hnk hq7 hcj hfz hbw7
        go_wp2_with fail
        go_roundw
        case rel =>
          refine ⟨k + 1, b2, _, updV vs j0 (.slice (some ⟨g3, 0, none⟩) (pl + 1) c3), by omega, by go_num, hid ⟨HX.out.1, HX.out.2, by rw [HTK.out]; exact HBP.out⟩, HL7, hid ?_⟩
          rw [HTK.out, ← HE.out.2.1]
          have hh := HP7.out.congr (ns' := fun i => (rts β Q1).getD i 0) (ps' := fun i => pof β Q1 ((rts β Q1).getD i 0)) (fun i hi => ⟨rfl, by have := HEND.out j0 hj0 hjv i hi; rw [HE.out.1]; exact this⟩)
          exact hh
        case measure => simp [intOf]; omega
    · have hke : k = Q.length := by omega
      subst hke
      have HFI : Hid (Parts (blk d (cutB d)) (allp d) w.heap.size u3 wr) := hid (by
        have h := HPR.out
        rw [List.take_length] at h
        rw [← HBE.out, ← HQQ.out]
        refine ⟨vs, ?_⟩
        have o := HLW.out.o1
        exact ⟨row_mono h.row (by omega), fun j hj => row_mono (h.rows j hj) (by omega), h.far, h.apart⟩)
      go_wp2_with fail
      go_ret
      exact ⟨_, rfl, HFI.out, HLW.out.kp, b1, HLW.out.mv, HB1.out.1, HB1.out.2.1⟩
end Go.Proofs.YtbfpcolkbfljoaaDoor
