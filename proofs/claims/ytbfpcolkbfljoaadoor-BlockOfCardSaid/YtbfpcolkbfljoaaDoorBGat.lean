/-
  The walk of gather of the program's charts: the pieces that hang together with one.
-/
import Derived.Test.YtbfpcolkbfljoaaDoorBCon
import Derived.WalkMore
import Derived.Deep.DeepCutAuto
namespace Go.Proofs.YtbfpcolkbfljoaaDoor
open Go.RowKit Go.Maps

/-- The memory of gather. -/
structure GS (d : Rl) (fv mp : Value) (N : Nat) (b : Nat → Option Nat) (L : List Nat) (lst : Value) (w wr : World) : Prop where
  below : Below w.heap.size w wr
  cb : CB d fv mp w.heap.size wr
  ge : w.heap.size < N
  mv : MV vT N (8 * d.n) b wr
  row : wr.ownsRow (N + 1) 3 1 lst L.length (encN L)
section
variable {d : Rl} {fv mp lst : Value} {N : Nat} {b b' : Nat → Option Nat} {L : List Nat} {w wr w' : World}
theorem GS.on (h : GS d fv mp N b L lst w wr) (k : Below wr.heap.size wr w') : GS d fv mp N b L lst w w' :=
  ⟨step h.below k, h.cb.stays k, h.ge, h.mv.same (k.block N h.mv.lt), row_stays h.row k⟩
theorem GS.lift {Bd : Nat} (h : GS d fv mp N b L lst w wr) (hH : Has d w) (k : Below Bd wr w') (hB : w.heap.size < Bd) : Below w.heap.size w w' ∧ CB d fv mp w.heap.size w' :=
  have hw : Below w.heap.size w w' := h.below.trans (k.mono (by omega))
  ⟨hw, h.cb.lift k hB (hH.stays hw)⟩
theorem GS.put (h : GS d fv mp N b L lst w wr) (hH : Has d w) (k : Kp N wr w') (hm : MV vT N (8 * d.n) b' w') : GS d fv mp N b' L lst w w' :=
  have q := h.lift hH (k.under h.mv.lt) h.ge
  ⟨q.1, q.2, h.ge, hm, row_kp h.row k (Nat.lt_succ_self _)⟩
theorem GS.app {x : Nat} {lst' : Value} (h : GS d fv mp N b L lst w wr) (hH : Has d w) (hr : w'.ownsRow (N + 1) 3 1 lst' (L.length + 1) (encN L ++ [.int .i64 (x : Int)])) (o : Obj) (hg : (wr.alloc o).grownBy w' lst.ownBlock) : GS d fv mp N b (L ++ [x]) lst' w w' := by
  have hN := h.mv.lt
  have ho : ∀ k, lst.ownBlock = some k → N + 1 ≤ k := fun k hk => (h.row.lt k hk).1
  have hb : Below (N + 1) wr w' := ((Below.refl _ wr).alloc (by omega) o).grown hg (by simp; omega) ho
  have q := h.lift hH hb (by have := h.ge; omega)
  refine ⟨q.1, q.2, h.ge, h.mv.same (hb.block N (by omega)), ?_⟩
  rw [List.length_append, encN_snoc]
  exact hr
theorem GS.start {x : Nat} (h : BS d fv mp [] (.slice none 0 0) w wr) (hz : w.heap.size + 1 < wr.heap.size) (hm : MV vT (w.heap.size + 1) (8 * d.n) b wr) :
    GS d fv mp (w.heap.size + 1) b [x] (.slice (some ⟨wr.heap.size, 0, none⟩) 1 1) w (wr.alloc (.cells #[.int .i64 (x : Int)] 3)) := by
  have hb := Joins.below_alloc1 wr (.cells #[.int .i64 (x : Int)] 3)
  refine ⟨step h.below hb, h.cb.stays hb, by omega, hm.same (hb.block _ hz), rfl, .inr ⟨wr.heap.size, 1, #[.int .i64 (x : Int)], rfl, by omega, ?_, Nat.le_refl _, by unfold maxLen; omega, rfl, by simp [encN]⟩⟩
  show (wr.heap.push _)[_]? = _
  rw [Array.getElem?_push, if_pos rfl]
theorem gs_keep {A g i cap t : Nat} {C : Prop} (hA : A = w.heap.size) (hi : i < L.length) (ht : t = L.getD i 0) (h : GS d fv mp N b L (.slice (some ⟨g, 0, none⟩) L.length cap) w wr ∧ C) (k : Below wr.heap.size wr w') :
    GS d fv mp N b L (.slice (some ⟨g, 0, none⟩) L.length cap) w w' ∧ w'.cell? ⟨A, 0, none⟩ = some (.int .i64 d.W) ∧ w'.cell? ⟨A, 1, none⟩ = some (.int .i64 d.H) ∧ w'.cell? ⟨A, 2, none⟩ = some d.as ∧ w'.cell? ⟨A, 3, none⟩ = some d.bs ∧ w'.cell? ⟨A, 4, none⟩ = some fv ∧ w'.cell? ⟨A, 5, none⟩ = some mp ∧ w'.cell? ⟨g, i, none⟩ = some (.int .i64 t) := by
  subst hA
  have h' := h.1.on k
  exact ⟨h', h'.cb.c0, h'.cb.c1, h'.cb.c2, h'.cb.c3, h'.cb.c4, h'.cb.c5, by rw [h'.row.cellAt i (by omega), encN_get _ hi, ht]⟩
theorem gs_has {C : Prop} (h : GS d fv mp N b L lst w wr ∧ C) : Has d wr := h.1.cb.has
end
/-- The list of neighbours that a round goes over: it lies beside the map and the list of what was found. -/
structure NBr (N g : Nat) (R : List Nat) (ra : Option Addr) (w : World) : Prop where
  ints : Ints w ra R.length (fun j => ((R.getD j 0 : Nat) : Int))
  ne : 0 < R.length → ∀ b off, ra = some ⟨b, off, none⟩ → N < b ∧ b ≠ g ∧ b < w.heap.size
theorem NBr.start {N g rcap B : Nat} {R : List Nat} {ra : Option Addr} {w : World} (h : w.ownsRow B 3 1 (.slice ra R.length rcap) R.length (encN R)) (hN : N < B) (hg : g < B) : NBr N g R ra w := by
  refine ⟨ints_of_row h rfl, fun hn b off e => ?_⟩
  obtain ⟨g', c, e', h1, h2⟩ := h.form hn
  cases e'
  cases e
  exact ⟨by omega, by omega, h2⟩
theorem NBr.put {N g : Nat} {R : List Nat} {ra : Option Addr} {w w' : World} (h : NBr N g R ra w) (k : Kp N w w') : NBr N g R ra w' := by
  refine ⟨fun j hj => ?_, fun hn b off e => ?_⟩
  · obtain ⟨b, off, e, hz, hc⟩ := h.ints j hj
    have := (h.ne (by omega) b off e).1
    exact ⟨b, off, e, by have := k.size; omega, (k.cell (p := ⟨b, off + j, none⟩) hz (Nat.ne_of_gt this)).trans hc⟩
  · have := h.ne hn b off e
    exact ⟨this.1, this.2.1, by have := k.size; omega⟩
theorem NBr.app {N g g' L c : Nat} {R : List Nat} {ra : Option Addr} {w w' : World} (h : NBr N g R ra w) (o : Obj) (hg : (w.alloc o).grownBy w' (Value.slice (some ⟨g, 0, none⟩) L c).ownBlock) (hl : (Value.slice (some ⟨g, 0, none⟩) L c).ownBlock = some g' ∨ g' = w.heap.size + 1) : NBr N g' R ra w' := by
  have hz : w.heap.size + 1 ≤ w'.heap.size := by have := hg.size; simpa using this
  refine ⟨fun j hj => ?_, fun hn b off e => ?_⟩
  · obtain ⟨b, off, e, hz', hc⟩ := h.ints j hj
    have hb := h.ne (by omega) b off e
    refine ⟨b, off, e, by omega, ?_⟩
    have e1 : w'.heap[b]? = w.heap[b]? := (hg.block b (by simp; omega) (by simp [Value.ownBlock]; exact hb.2.1)).trans (Below.heap_alloc _ _ _ hb.2.2)
    exact (World.cell?_of_block (a := ⟨b, off + j, none⟩) e1).trans hc
  · have hb := h.ne hn b off e
    refine ⟨hb.1, ?_, by omega⟩
    rcases hl with hl | hl
    · simp [Value.ownBlock] at hl; omega
    · omega
/-- What gather hands back. -/
def Gath (d : Rl) (C : Int → Int → Int → Bool) (x : Nat) (w : World) (r : Ending) (w' : World) : Prop :=
  ∃ L, NL L w r w' ∧ (∀ z, z ∈ L ↔ Con d C x z) ∧ L.length ≤ 8 * d.n

set_option maxRecDepth 20000 in
set_option maxHeartbeats 12800000 in
theorem gather_any (d : Rl) (hg : Gd d) (mp : Value) (x : Nat) (hx : Pl d x) (w : World) (hH : Has d w) :
    Calls Tryd.prog 104 #[d.cht (.func (.func 79) #[d.ls] #[]) mp, .int .i64 x] w (Gath d (cutB d) x w) := by
  have hsm := hg.small
  obtain ⟨fv, hfv⟩ : ∃ fv : Value, fv = .func (.func 79) #[d.ls] #[] := ⟨_, rfl⟩
  have HBS := hid (fun t (ht : Pl d t) w hC => beside_any d hg mp t ht.at.1 ht.at.2 w hC)
  rw [← hfv] at HBS ⊢
  have HPL := hid (fun i L b (h : Gt d (cutB d) x i L b) => And.intro (h.len hx) (fun z hz => h.pl hx (z := z) hz))
  have HMB := hid (fun t (ht : Pl d t) y => mem_bsd (d := d) (C := cutB d) (x := t) (y := y) ht.at.2)
  obtain ⟨S, hS⟩ : ∃ S, S = 8 * d.n := ⟨_, rfl⟩
  have hS2 : S ≤ 100000 := by omega
  have hx2 : x < S := by rw [hS]; exact hx.lt
  have HSQ := hid hS
  have HIN := hid infoX
  have hmm := @run_makeMap Tryd.prog
  obtain ⟨w2, hrun, hmv, hkp⟩ := (MV.start vT S (w.alloc (.cells #[.int .i64 d.W, .int .i64 d.H, d.as, d.bs, fv, mp] 101))).putT hS2 (t := x) (v := 0) hx2
  have hkb := hkp.under (by simp)
  have hzz := hkp.size
  simp only [World.size_alloc] at hrun hmv hkp hkb hzz
  have hb1 := (BS.start (fv := fv) (mp := mp) hH).stays (Joins.below_alloc1 _ (.map #[] 0))
  have hb2 : BS d fv mp [] (.slice none 0 0) w w2 := by
    have hw : Below w.heap.size w w2 := hb1.below.trans (hkb.mono (by omega))
    exact ⟨hw, hb1.cb.lift hkb (by omega) (hH.stays hw), by simpa [encN] using World.ownsRow_nil _ _ _ _⟩
  have HV := hid (GS.start (x := x) hb2 (by omega) (by rw [← hS]; exact hmv))
  have HG0 := hid (Gt.start d (cutB d) x)
  have HHH := hid hH
  clear hg hsm hmv hkp hkb hH hx hb1 hb2 hx2 hfv
  go_enter Tryd.func104, Tryd.ntmps104
  go_wp2_with fail
  obtain ⟨A, hA⟩ : ∃ A, A = w.heap.size := ⟨_, rfl⟩
  obtain ⟨N, hN⟩ : ∃ N, N = A + 1 := ⟨_, rfl⟩
  have HA := hid hA
  have HN := hid hN
  simp only [← hA, ← hN] at HV ⊢
  clear hrun hzz hA hN hmm
  generalize hg0 : w2.heap.size = g0 at HV ⊢
  generalize World.alloc _ _ = wv at HV ⊢
  clear hg0
  go_loopw [6, 7] (fun lst iv wr => ∃ (i g cap : Nat) (L : List Nat) (b : Nat → Option Nat), iv = .int .i64 i ∧ lst = .slice (some ⟨g, 0, none⟩) L.length cap ∧ Hid (Gt d (cutB d) x i L b) ∧ Hid (GS d fv mp N b L lst w wr)) (fun _ iv _ => S + 1 - (intOf iv).toNat)
  case atStart => exact ⟨0, g0, 1, [x], _, rfl, rfl, HG0, HV⟩
  case round =>
    clear HV HG0
    obtain ⟨i, g, cap, L, b, rfl, rfl, HB, HV⟩ := hrel
    have hlen := (HPL.out _ _ _ HB.out).1
    rw [← HSQ.out] at hlen
    have hil := HB.out.le
    have c0 := HV.out.cb.c0
    have c1 := HV.out.cb.c1
    have c2 := HV.out.cb.c2
    have c3 := HV.out.cb.c3
    have c4 := HV.out.cb.c4
    have c5 := HV.out.cb.c5
    have hz := HV.out.cb.size
    have hz3 := HV.out.mv.lt
    rw [← HA.out] at c0 c1 c2 c3 c4 c5 hz
    by_cases hlt : i < L.length
    · obtain ⟨t, ht⟩ : ∃ t, t = L.getD i 0 := ⟨_, rfl⟩
      have HTP : Hid (Pl d t) := hid ((HPL.out _ _ _ HB.out).2 t (by rw [ht]; exact getD_memN hlt))
      have hfc := HV.out.row.cellAt i (by omega)
      rw [encN_get _ hlt, ← ht] at hfc
      have hgz := (HV.out.row.lt g rfl).2
      have HT := hid ht
      have HBT := hid (HBS.out t HTP.out)
      have HMT := hid (HMB.out t HTP.out)
      have hl1 : (i : Int) < ((L.length : Nat) : Int) := by omega
      clear ht
      go_wp2_with fail
      go_region_held3 (fun w' => GS d fv mp N b L (.slice (some ⟨g, 0, none⟩) L.length cap) w w' ∧ w'.cell? ⟨A, 0, none⟩ = some (.int .i64 d.W) ∧ w'.cell? ⟨A, 1, none⟩ = some (.int .i64 d.H) ∧ w'.cell? ⟨A, 2, none⟩ = some d.as ∧ w'.cell? ⟨A, 3, none⟩ = some d.bs ∧ w'.cell? ⟨A, 4, none⟩ = some fv ∧ w'.cell? ⟨A, 5, none⟩ = some mp ∧ w'.cell? ⟨g, i, none⟩ = some (.int .i64 t))
        (first
          | exact gs_keep HA.out hlt HT.out (And.intro HV.out trivial) ((Below.refl _ _).drew)
          | exact gs_keep HA.out hlt HT.out (by assumption) hn
          | assumption)
        (first
          | (go_at_call 118; (refine (HBT.out _ (gs_has (by assumption))).mono ?_); rintro e wx ⟨ra, rcap, rfl, hrow, hn⟩))
      all_goals go_wp2_with fail
      rename_i hh
      have HV2 := hid hh.1
      obtain ⟨R, hR⟩ : ∃ R, R = bsd d (cutB d) t := ⟨_, rfl⟩
      simp only [← hR] at hrow hn HMT ⊢
      have hrN : NBr N g R ra wx := NBr.start hrow (by have := HV.out.mv.lt; simpa using this) (by simpa using hgz)
      have HNB := hid hrN
      have hRl : R.length ≤ 100 := by
        rw [hR]; unfold bsd; rw [List.length_append, List.length_append]
        have h1 := tlk_len d.n d.Z (t / 8) (t % 8) 6
        have h2 := sdl_len d (cutB d) (t / 8) (t % 8) (fst (t % 8 : Nat))
        have h3 := sdl_len d (cutB d) (t / 8) (t % 8) (snd (t % 8 : Nat))
        omega
      clear hrow hrN hn hh hR HBT hfc hl1 hgz c0 c1 c2 c3 c4 c5 hz hz3 HV hlen hil
      go_loopw [6, 28] (fun lst kv wr => ∃ (k g cap : Nat) (L : List Nat) (b : Nat → Option Nat), k ≤ R.length ∧ kv = .int .i64 k ∧ lst = .slice (some ⟨g, 0, none⟩) L.length cap ∧ Hid (Gt d (cutB d) x i L b ∧ i < L.length ∧ t = L.getD i 0 ∧ ∀ y, y ∈ R.take k → y ∈ L) ∧ Hid (GS d fv mp N b L lst w wr) ∧ Hid (NBr N g R ra wr)) (fun _ kv _ => R.length - (intOf kv).toNat)
      case atStart => exact ⟨0, g, cap, L, b, Nat.zero_le _, rfl, rfl, hid ⟨HB.out, hlt, HT.out, fun y hy => by simp at hy⟩, HV2, HNB⟩
      case round =>
        clear HV2 HNB HB hlt HT
        obtain ⟨k, g', cap', L', b', hk, rfl, rfl, HB, HV, HNB⟩ := hrel
        have hlen := (HPL.out _ _ _ HB.out.1).1
        rw [← HSQ.out] at hlen
        by_cases hkl : k < R.length
        · obtain ⟨n, hn⟩ : ∃ n, n = R.getD k 0 := ⟨_, rfl⟩
          have hnR : n ∈ R := by rw [hn]; exact getD_memN hkl
          have hadj := (HMT.out n).1 hnR
          have hnS : n < S := by rw [HSQ.out]; exact hadj.1.lt
          have htk : R.take (k + 1) = R.take k ++ [n] := by rw [take_snoc 0 hkl, hn]
          have HADJ := hid hadj
          have HTK := hid htk
          obtain ⟨rb, roff, rfl, hrz, hrc⟩ := HNB.out.ints k hkl
          dsimp only at hrc
          rw [← hn] at hrc
          have hkl' : (k : Int) < ((R.length : Nat) : Int) := by omega
          have hrun := HV.out.mv.has (t := n) (by rw [← HSQ.out]; exact hnS) (by rw [← HSQ.out]; exact hS2)
          obtain ⟨q, hq⟩ : ∃ q, q = (b' n).isSome := ⟨_, rfl⟩
          rw [← hq] at hrun
          have HQ := hid hq
          clear hq hn htk hadj hnR
          cases q
          · have hbn : b' n = none := by have := HQ.out; cases h : b' n with | none => rfl | some v => rw [h] at this; cases this
            obtain ⟨w5, hrun5, hmv5, hkp5⟩ := HV.out.mv.putT (t := n) (v := 0) (by rw [← HSQ.out]; exact hS2) (by rw [← HSQ.out]; exact hnS)
            have HV5 := hid (HV.out.put HHH.out hkp5 hmv5)
            have HNB5 := hid (HNB.out.put hkp5)
            have HADD : Hid (Gt d (cutB d) x i (L' ++ [n]) (updN b' n 0) ∧ i < (L' ++ [n]).length ∧ t = (L' ++ [n]).getD i 0 ∧ ∀ y, y ∈ R.take (k + 1) → y ∈ L' ++ [n]) := hid (by
              obtain ⟨h1, h2, h3, h4⟩ := HB.out
              refine ⟨h1.add h2 (by rw [← h3]; exact HADJ.out) hbn, by simp; omega, by rw [getD_app h2]; exact h3, fun y hy => ?_⟩
              rw [HTK.out] at hy
              simp at hy ⊢
              rcases hy with hy | hy
              · exact .inl (h4 y hy)
              · exact .inr hy)
            have hz5 := HV5.out.mv.lt
            clear hmv5 hkp5 hbn
            go_wp2_with (at_builtin; obtain ⟨i0, HIN'⟩ := HIN.out; refine wpList_append_lies _ rfl _ _ 22 rfl (N + 1) 3 i0 (.int .i64 0) 1 8 Tryd.underlying22 HIN'.1 HIN'.2.1 HIN'.2.2.1 HIN'.2.2.2 rfl (by decide) _ _ _ rfl (HV5.out.row.alloc _) ⟨w5.heap.size, 0, none⟩ 1 1 [.int .i64 n] rfl rfl ?c1 ?c2 (by decide) ?c3 ?c4 ?c5 (w5.heap.size + 1) (by simp) ?_)
            case c1 =>
              intro j u hj
              match j, hj with
              | 0, hj => simp at hj; subst hj; simp [Addr.add]
            case c2 => intro u hu; simp at hu; subst hu; rfl
            case c3 => unfold maxLen; omega
            case c4 => omega
            case c5 => simp; omega
            intro g2 cap2 w6 hown hgrow hat hlt6
            have HV6 := hid (HV5.out.app (x := n) HHH.out hown _ hgrow)
            have HNB6 := hid (HNB5.out.app _ hgrow hat)
            have hl2 : L'.length + 1 = (L' ++ [n]).length := by simp
            clear hown hgrow hat hlt6 hrun hrun5
            rw [hl2] at HV6 ⊢
            clear hl2
            go_wp2_with fail
            exact ⟨⟨k + 1, g2, cap2, L' ++ [n], _, by omega, by go_num, rfl, HADD, HV6, HNB6⟩, by simp [intOf]; omega⟩
          · have HSK : Hid (Gt d (cutB d) x i L' b' ∧ i < L'.length ∧ t = L'.getD i 0 ∧ ∀ y, y ∈ R.take (k + 1) → y ∈ L') := hid (by
              obtain ⟨h1, h2, h3, h4⟩ := HB.out
              refine ⟨h1, h2, h3, fun y hy => ?_⟩
              rw [HTK.out] at hy
              simp at hy
              rcases hy with hy | rfl
              · exact h4 y hy
              · exact (h1.mem y).1 HQ.out.symm)
            go_wp2_with fail
            exact ⟨⟨k + 1, g', cap', L', b', by omega, by go_num, rfl, HSK, HV, HNB⟩, by simp [intOf]; omega⟩
        · have hke : k = R.length := by omega
          have HCL : Hid (Gt d (cutB d) x (i + 1) L' b') := hid (by
            obtain ⟨h1, h2, h3, h4⟩ := HB.out
            refine h1.next h2 fun y hy => h4 y ?_
            rw [hke, List.take_length]
            exact (HMT.out y).2 (by rw [h3]; exact hy))
          have hil : i < L'.length := HB.out.2.1
          go_wp2_with fail
          exact ⟨⟨i + 1, g', cap', L', b', by go_num, rfl, HCL, HV⟩, by simp [intOf]; omega⟩
    · have HDN := hid (HB.out.done hlt)
      go_wp2_with fail
      go_ret
      exact ⟨L, ⟨_, cap, rfl, row_mono HV.out.row (by have := HV.out.ge; omega), HV.out.below⟩, HDN.out, by rw [← HSQ.out]; exact hlen⟩
end Go.Proofs.YtbfpcolkbfljoaaDoor
