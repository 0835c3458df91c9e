/-
  The walk of search of a chart.
-/
import Derived.Test.YtkpnngpnjimogaaWMi
import Derived.WalkMore
import Derived.Deep.DeepCutAuto
namespace Go.Proofs.Ytkpnngpnjimogaa
open Go.RowKit Go.Maps

theorem Cx.lift {d : Wat} {M B : Nat} {w w' : World} (h : Cx d M w) (k : Below B w w') (hM : M < B) : Cx d M w' := by
  have i : ∀ (ao : Option Addr) (n : Nat) (Z : Nat → Int), (0 < n → ∀ b off, ao = some ⟨b, off, none⟩ → b < M) → Ints w ao n Z → Ints w' ao n Z := fun ao n Z hn hI j hj => by
    obtain ⟨b, off, e, hz, hc⟩ := hI j hj
    have := hn (by omega) b off e
    exact ⟨b, off, e, by have := k.size; omega, (k.cell (p := ⟨b, off + j, none⟩) (show b < B by omega)).trans hc⟩
  exact ⟨i _ _ _ (fun hn b off e => by cases e; exact h.na hn) h.land, i _ _ _ (fun hn b off e => by cases e; exact h.nk hn) h.kinds, i _ _ _ h.nb h.buoys, h.na, h.nk, h.nb, h.gs.same (k.block M hM)⟩
theorem CB.lift {d : Wat} {M B : Nat} {w wr w' : World} (h : CB d M w wr) (k : Below B wr w') (hB : w.heap.size < B) : CB d M w w' := by
  have hM := h.lt
  have hs := h.size
  have e : ∀ i, w'.cell? ⟨w.heap.size, i, none⟩ = wr.cell? ⟨w.heap.size, i, none⟩ := fun i => k.cell (p := ⟨w.heap.size, i, none⟩) hB
  have hx := h.cx.lift k (by omega)
  exact ⟨⟨⟨k.os.trans h.nx.kp.os, k.tape.trans h.nx.kp.tape, k.output.trans h.nx.kp.output, Nat.le_trans h.nx.kp.size k.size, fun i hi hn => (k.block i (by omega)).trans (h.nx.kp.block i hi hn)⟩, hx.gs⟩, hx, Nat.lt_of_lt_of_le hs k.size, hM, (e 0).trans h.c0, (e 1).trans h.c1, (e 2).trans h.c2, (e 3).trans h.c3, (e 4).trans h.c4, (e 5).trans h.c5⟩
theorem Kp.under {N : Nat} {w w' : World} (k : Kp N w w') (hN : N < w.heap.size) : Below N w w' := k.below (Nat.le_refl _) (Nat.le_of_lt hN)

/-- The memory of search: the chart's box, the map, the list of what was found. -/
structure SS (d : Wat) (M N : Nat) (b : Nat → Option Nat) (L : List Nat) (lst : Value) (w wr : World) : Prop where
  cb : CB d M w wr
  ge : w.heap.size < N
  mv : MV N (d.W * d.H) b wr
  row : wr.ownsRow (N + 1) 3 1 lst L.length (encN L)
theorem SS.on {d : Wat} {M N : Nat} {b : Nat → Option Nat} {L : List Nat} {lst : Value} {w wr w' : World} (h : SS d M N b L lst w wr) (k : Nx d M wr w') : SS d M N b L lst w w' :=
  have hM := h.cb.lt
  have hN := h.ge
  ⟨h.cb.on k, hN, h.mv.same (k.kp.block N h.mv.lt (by omega)), row_kp h.row k.kp (by omega)⟩
theorem SS.put {d : Wat} {M N : Nat} {b b' : Nat → Option Nat} {L : List Nat} {lst : Value} {w wr w' : World} (h : SS d M N b L lst w wr) (k : Kp N wr w') (hm : MV N (d.W * d.H) b' w') : SS d M N b' L lst w w' :=
  ⟨h.cb.lift (k.under h.mv.lt) h.ge, h.ge, hm, row_kp h.row k (Nat.lt_succ_self _)⟩
theorem SS.app {d : Wat} {M N x : Nat} {b : Nat → Option Nat} {L : List Nat} {lst lst' : Value} {w wr w' : World} (h : SS d M N b L lst w wr) (hr : w'.ownsRow (N + 1) 3 1 lst' (L.length + 1) (encN L ++ [.int .i64 (x : Int)])) (o : Obj) (hg : (wr.alloc o).grownBy w' lst.ownBlock) : SS d M N b (L ++ [x]) lst' w w' := by
  have hN := h.mv.lt
  have ho : ∀ k, lst.ownBlock = some k → N + 1 ≤ k := fun k hk => (h.row.lt k hk).1
  have hb : Below (N + 1) wr w' := ((Below.refl _ wr).alloc (by omega) o).grown hg (by simp; omega) ho
  refine ⟨h.cb.lift hb (by have := h.ge; omega), h.ge, h.mv.same (hb.block N (by omega)), ?_⟩
  rw [List.length_append, encN_snoc]
  exact hr
theorem SS.start {d : Wat} {M S fr : Nat} {b : Nat → Option Nat} {w wr : World} (hS : S = d.W * d.H) (h : CB d M w wr) (hz : w.heap.size + 1 < wr.heap.size) (hm : MV (w.heap.size + 1) S b wr) :
    SS d M (w.heap.size + 1) b [fr] (.slice (some ⟨wr.heap.size, 0, none⟩) 1 1) w (wr.alloc (.cells #[.int .i64 (fr : Int)] 3)) := by
  subst hS
  refine ⟨h.below (Joins.below_alloc1 _ _), by omega, hm.same ((Joins.below_alloc1 _ _).block _ hz), rfl, .inr ⟨wr.heap.size, 1, #[.int .i64 (fr : Int)], rfl, by omega, ?_, Nat.le_refl _, by unfold maxLen; omega, rfl, by simp [encN]⟩⟩
  show (wr.heap.push _)[_]? = _
  rw [Array.getElem?_push, if_pos rfl]
theorem ss_keep {d : Wat} {M N A g i cap t : Nat} {b : Nat → Option Nat} {L : List Nat} {w wr w' : World} {C : Prop} (hA : A = w.heap.size) (hi : i < L.length) (ht : t = L.getD i 0) (h : SS d M N b L (.slice (some ⟨g, 0, none⟩) L.length cap) w wr ∧ C) (k : Nx d M wr w') :
    SS d M N b L (.slice (some ⟨g, 0, none⟩) L.length cap) w w' ∧ w'.cell? ⟨A, 0, none⟩ = some (.int .i64 d.W) ∧ w'.cell? ⟨A, 1, none⟩ = some (.int .i64 d.H) ∧ w'.cell? ⟨A, 2, none⟩ = some d.as ∧ w'.cell? ⟨A, 3, none⟩ = some d.ks ∧ w'.cell? ⟨A, 4, none⟩ = some d.bs ∧ w'.cell? ⟨A, 5, none⟩ = some (.map (some M)) ∧ w'.cell? ⟨g, i, none⟩ = some (.int .i64 t) := by
  subst hA
  have h' := h.1.on k
  exact ⟨h', h'.cb.c0, h'.cb.c1, h'.cb.c2, h'.cb.c3, h'.cb.c4, h'.cb.c5, by rw [h'.row.cellAt i (by omega), encN_get _ hi, ht]⟩
/-- The list of neighbours that a round of search goes over: it lies beside the map and the list of what was found. -/
structure NB (N g : Nat) (R : List Nat) (ra : Option Addr) (w : World) : Prop where
  ints : Ints w ra R.length (fun j => ((R.getD j 0 : Nat) : Int))
  ne : 0 < R.length → ∀ b off, ra = some ⟨b, off, none⟩ → N < b ∧ b ≠ g ∧ b < w.heap.size
theorem NB.start {N g rcap B : Nat} {R : List Nat} {ra : Option Addr} {w : World} (h : w.ownsRow B 3 1 (.slice ra R.length rcap) R.length (encN R)) (hN : N < B) (hg : g < B) : NB N g R ra w := by
  refine ⟨ints_of_row h rfl, fun hn b off e => ?_⟩
  obtain ⟨g', c, e', h1, h2⟩ := h.form hn
  cases e'
  cases e
  exact ⟨by omega, by omega, h2⟩
theorem NB.put {N g : Nat} {R : List Nat} {ra : Option Addr} {w w' : World} (h : NB N g R ra w) (k : Kp N w w') : NB N g R ra w' := by
  refine ⟨fun j hj => ?_, fun hn b off e => ?_⟩
  · obtain ⟨b, off, e, hz, hc⟩ := h.ints j hj
    have := (h.ne (by omega) b off e).1
    exact ⟨b, off, e, by have := k.size; omega, (k.cell (p := ⟨b, off + j, none⟩) hz (Nat.ne_of_gt this)).trans hc⟩
  · have := h.ne hn b off e
    exact ⟨this.1, this.2.1, by have := k.size; omega⟩
theorem NB.app {N g g' L c : Nat} {R : List Nat} {ra : Option Addr} {w w' : World} (h : NB N g R ra w) (o : Obj) (hg : (w.alloc o).grownBy w' (Value.slice (some ⟨g, 0, none⟩) L c).ownBlock) (hl : (Value.slice (some ⟨g, 0, none⟩) L c).ownBlock = some g' ∨ g' = w.heap.size + 1) : NB N g' R ra w' := by
  have hz : w.heap.size + 1 ≤ w'.heap.size := by have := hg.size; simpa using this
  refine ⟨fun j hj => ?_, fun hn b off e => ?_⟩
  · obtain ⟨b, off, e, hz', hc⟩ := h.ints j hj
    have hb := h.ne (by omega) b off e
    refine ⟨b, off, e, by omega, ?_⟩
    have e1 : w'.heap[b]? = w.heap[b]? := (hg.block b (by simp; omega) (by simp [Value.ownBlock]; exact hb.2.1)).trans (Below.heap_alloc _ _ _ hb.2.2)
    exact (World.cell?_of_block (a := ⟨b, off + j, none⟩) e1).trans hc
  · have hb := h.ne hn b off e
    refine ⟨hb.1, ?_, by omega⟩
    rcases hl with hl | hl
    · simp [Value.ownBlock] at hl; omega
    · omega
theorem drop_cons {R : List Nat} {k : Nat} (h : k < R.length) : R.drop k = R.getD k 0 :: R.drop (k + 1) := by
  rw [List.drop_eq_getElem_cons h, List.getD_eq_getElem?_getD, List.getElem?_eq_getElem h]; rfl
theorem ss_cx {d : Wat} {M N : Nat} {b : Nat → Option Nat} {L : List Nat} {lst : Value} {w wr : World} {C : Prop} (h : SS d M N b L lst w wr ∧ C) : Cx d M wr := h.1.cb.cx
/-- What search hands back. -/
def Srch (d : Wat) (M fr tg : Nat) (w : World) (r : Ending) (w' : World) : Prop :=
  ∃ N b, r = .returned (.map (some N)) ∧ w.heap.size < N ∧ MV N (d.W * d.H) b w' ∧ Bf (bes d.W d.H d.Z d.K) fr tg (.fin b) ∧ Nx d M w w'

set_option maxRecDepth 20000 in
set_option maxHeartbeats 12800000 in
theorem search_any (d : Wat) (hg : Good d.W d.H d.n d.Z) (hm : d.m = d.W * d.H) (M fr tg : Nat) (hfr : fr < d.W * d.H) (htg : tg < d.W * d.H) (w : World) (hC : Cx d M w) :
    Calls Try.prog 67 #[d.cht M, .int .i64 fr, .int .i64 tg] w (Srch d M fr tg w) := by
  have hsd := hg.side
  have hsm := mul_small hsd.2.1 hsd.2.2.2
  have hSz : Sized d.W d.H := ⟨⟨by omega, by omega⟩, by omega, by omega⟩
  obtain ⟨S, hS⟩ : ∃ S, S = d.W * d.H := ⟨_, rfl⟩
  have HIV := hid (fun s (h : Bf (bes d.W d.H d.Z d.K) fr tg s) => h.inv (S := S) (by rw [hS]; exact hfr) (by rw [hS]; exact fun t ht => bes_in hSz d.Z d.K ht))
  have HBS := hid (fun t (ht : t < S) w hC => beside_any d hg hm M t (by rw [← hS]; exact ht) w hC)
  have hS2 : S ≤ 1024 := by omega
  have hfr2 : fr ≤ 1024 := by omega
  have htg2 : tg ≤ 1024 := by omega
  have HSQ := hid hS
  have HIN := hid infoX
  have hmm := @run_makeMap Try.prog
  obtain ⟨w2, hrun, hmv, hkp⟩ := (MV.start S (w.alloc (.cells #[.int .i64 d.W, .int .i64 d.H, d.as, d.ks, d.bs, .map (some M)] 52))).put hS2 (t := fr) (v := fr) (by rw [hS]; exact hfr)
  have hkb := hkp.under (by simp)
  have hzz := hkp.size
  simp only [World.size_alloc] at hrun hmv hkp hkb hzz
  have HCB2 := hid (((CB.start hC).below (Joins.below_alloc1 _ _)).lift hkb (by omega))
  have HV := hid (SS.start (fr := fr) hS HCB2.out (by omega) hmv)
  clear hg hm hsd hsm hSz hmv hkp hkb hC hfr htg
  go_enter Try.func67, Try.ntmps67
  go_wp2_with fail
  go_step3
  go_wp2_with fail
  go_step3
  with_reducible apply_assumption
  go_wp2_with fail
  obtain ⟨A, hA⟩ : ∃ A, A = w.heap.size := ⟨_, rfl⟩
  obtain ⟨N, hN⟩ : ∃ N, N = A + 1 := ⟨_, rfl⟩
  have HA := hid hA
  have HN := hid hN
  simp only [← hA, ← hN] at HV ⊢
  clear hrun hzz hA hN hmm HCB2
  generalize hg0 : w2.heap.size = g0 at HV ⊢
  generalize World.alloc _ _ = wv at HV ⊢
  clear hg0
  go_loopw [8, 9] (fun lst iv wr => ∃ (i g cap : Nat) (L : List Nat) (b : Nat → Option Nat), iv = .int .i64 i ∧ lst = .slice (some ⟨g, 0, none⟩) L.length cap ∧ Hid (Bf (bes d.W d.H d.Z d.K) fr tg (.st i L b)) ∧ Hid (SS d M N b L lst w wr)) (fun _ iv _ => S + 1 - (intOf iv).toNat)
  case atStart => exact ⟨0, g0, 1, [fr], _, rfl, rfl, hid .start, HV⟩
  case round =>
    clear HV
    obtain ⟨i, g, cap, L, b, rfl, rfl, HB, HV⟩ := hrel
    have hinv := HIV.out _ HB.out
    have hlen := hinv.len
    have hil := hinv.le
    have c0 := HV.out.cb.c0
    have c1 := HV.out.cb.c1
    have c2 := HV.out.cb.c2
    have c3 := HV.out.cb.c3
    have c4 := HV.out.cb.c4
    have c5 := HV.out.cb.c5
    have hz := HV.out.cb.size
    have hz3 := HV.out.mv.lt
    rw [← HA.out] at c0 c1 c2 c3 c4 c5 hz
    by_cases hlt : i < L.length
    · have hin := hid (HB.out.opn hlt)
      obtain ⟨t, ht⟩ : ∃ t, t = L.getD i 0 := ⟨_, rfl⟩
      have htS : t < S := by rw [ht]; exact hinv.at hlt
      rw [← ht] at hin
      have hfc := HV.out.row.cellAt i (by omega)
      rw [encN_get _ hlt, ← ht] at hfc
      have hgz := (HV.out.row.lt g rfl).2
      have HT := hid ht
      have HBT := hid (HBS.out t htS)
      have hl1 : (i : Int) < ((L.length : Nat) : Int) := by omega
      clear ht hinv
      go_wp2_with fail
      go_region_held3 (fun w' => SS d M N b L (.slice (some ⟨g, 0, none⟩) L.length cap) w w' ∧ w'.cell? ⟨A, 0, none⟩ = some (.int .i64 d.W) ∧ w'.cell? ⟨A, 1, none⟩ = some (.int .i64 d.H) ∧ w'.cell? ⟨A, 2, none⟩ = some d.as ∧ w'.cell? ⟨A, 3, none⟩ = some d.ks ∧ w'.cell? ⟨A, 4, none⟩ = some d.bs ∧ w'.cell? ⟨A, 5, none⟩ = some (.map (some M)) ∧ w'.cell? ⟨g, i, none⟩ = some (.int .i64 t))
        (first
          | exact ss_keep HA.out hlt HT.out (And.intro HV.out trivial) (HV.out.cb.cx.go ((Below.refl _ _).drew))
          | exact ss_keep HA.out hlt HT.out (by assumption) hn
          | assumption)
        (first
          | (go_at_call 84; (refine (HBT.out _ (ss_cx (by assumption))).mono ?_); rintro e wx ⟨ra, rcap, rfl, hrow, hn⟩))
      all_goals go_wp2_with fail
      rename_i hh
      have HV2 := hid hh.1
      obtain ⟨R, hR⟩ : ∃ R, R = bes d.W d.H d.Z d.K t := ⟨_, rfl⟩
      have hR4 : R.length ≤ 4 := by rw [hR]; exact besK_len _ _ _ _ _ _
      simp only [← hR] at hrow hin ⊢
      have hrN : NB N g R ra wx := NB.start hrow (by have := HV.out.mv.lt; simpa using this) (by simpa using hgz)
      have HNB := hid hrN
      clear hrow hrN hn hh hR HBT htS hfc hl1 hgz c0 c1 c2 c3 c4 c5 hz hz3 HT HV HB hlen hil
      go_loopw [8, 33] (fun lst kv wr => ∃ (k g cap : Nat) (L : List Nat) (b : Nat → Option Nat), k ≤ R.length ∧ kv = .int .i64 k ∧ lst = .slice (some ⟨g, 0, none⟩) L.length cap ∧ Hid (Bf (bes d.W d.H d.Z d.K) fr tg (.inn i L b (R.drop k))) ∧ Hid (SS d M N b L lst w wr) ∧ Hid (NB N g R ra wr)) (fun _ kv _ => R.length - (intOf kv).toNat)
      case atStart => exact ⟨0, g, cap, L, b, Nat.zero_le _, rfl, rfl, hin, HV2, HNB⟩
      case round =>
        clear HV2 HNB hin hlt
        obtain ⟨k, g', cap', L', b', hk, rfl, rfl, HB, HV, HNB⟩ := hrel
        have hinv := HIV.out _ HB.out
        have hlt := hinv.2.1
        have hlen := hinv.1.len
        by_cases hkl : k < R.length
        · obtain ⟨n, hn⟩ : ∃ n, n = R.getD k 0 := ⟨_, rfl⟩
          have hdr := drop_cons hkl
          rw [← hn] at hdr
          rw [hdr] at HB hinv
          have hnS : n < S := hinv.2.2 n (by simp)
          obtain ⟨rb, roff, rfl, hrz, hrc⟩ := HNB.out.ints k hkl
          dsimp only at hrc
          rw [← hn] at hrc
          have hkl' : (k : Int) < ((R.length : Nat) : Int) := by omega
          obtain ⟨x, hrun⟩ := HV.out.mv.look (t := n) (by rw [← hS]; exact hnS) (by rw [← hS]; exact hS2)
          obtain ⟨q, hq⟩ : ∃ q, q = (b' n).isSome := ⟨_, rfl⟩
          rw [← hq] at hrun
          have HQ := hid hq
          clear hq hn hdr
          cases q
          · have hbn : b' n = none := by have := HQ.out; cases h : b' n with | none => rfl | some v => rw [h] at this; cases this
            have HBN := hid hbn
            have hfc := HV.out.row.cellAt i (by omega)
            rw [encN_get _ hlt] at hfc
            obtain ⟨p, hp⟩ : ∃ p, p = L'.getD i 0 := ⟨_, rfl⟩
            rw [← hp] at hfc
            have hi' : (i : Int) < ((L'.length : Nat) : Int) := by omega
            have hgz := (HV.out.row.lt g' rfl).2
            obtain ⟨w5, hrun5, hmv5, hkp5⟩ := HV.out.mv.put (t := n) (v := p) (by rw [← hS]; exact hS2) (by rw [← hS]; exact hnS)
            have HV5 := hid (HV.out.put hkp5 hmv5)
            have HNB5 := hid (HNB.out.put hkp5)
            have HP := hid hp
            clear hmv5 hkp5 hp hbn hinv
            by_cases hnt : n = tg
            · have HHIT := hid (HB.out.hit HBN.out hnt)
              rw [← HP.out] at HHIT
              subst hnt
              go_wp2_with fail
              rw [Exit.noGoto_ret]
              go_ret
              exact ⟨N, _, rfl, HV5.out.ge, HV5.out.mv, HHIT.out, HV5.out.cb.nx⟩
            · have HADD := hid (HB.out.add HBN.out hnt)
              rw [← HP.out] at HADD
              have hnt' : ((n : Int) == (tg : Int)) = false := by rw [beq_eq_false_iff_ne]; omega
              have hz5 := HV5.out.mv.lt
              go_wp2_with (at_builtin; obtain ⟨i0, HIN'⟩ := HIN.out; refine wpList_append_lies _ rfl _ _ 22 rfl (N + 1) 3 i0 (.int .i64 0) 1 8 Try.underlying22 HIN'.1 HIN'.2.1 HIN'.2.2.1 HIN'.2.2.2 rfl (by decide) _ _ _ rfl (HV5.out.row.alloc _) ⟨w5.heap.size, 0, none⟩ 1 1 [.int .i64 n] rfl rfl ?c1 ?c2 (by decide) ?c3 ?c4 ?c5 (w5.heap.size + 1) (by simp) ?_)
              case c1 =>
                intro j u hj
                match j, hj with
                | 0, hj => simp at hj; subst hj; simp [Addr.add]
              case c2 => intro u hu; simp at hu; subst hu; rfl
              case c3 => unfold maxLen; omega
              case c4 => omega
              case c5 => simp; omega
              intro g2 cap2 w6 hown hgrow hat hlt6
              have HV6 := hid (HV5.out.app (x := n) hown _ hgrow)
              have HNB6 := hid (HNB5.out.app _ hgrow hat)
              have hl2 : L'.length + 1 = (L' ++ [n]).length := by simp
              clear hown hgrow hat hlt6 hrun hrun5
              rw [hl2] at HV6 ⊢
              clear hl2
              go_wp2_with fail
              exact ⟨⟨k + 1, g2, cap2, L' ++ [n], _, by omega, by go_num, rfl, HADD, HV6, HNB6⟩, by simp [intOf]; omega⟩
          · have HSK := hid (HB.out.skip HQ.out.symm)
            clear hinv
            go_wp2_with fail
            exact ⟨⟨k + 1, g', cap', L', b', by omega, by go_num, rfl, HSK, HV, HNB⟩, by simp [intOf]; omega⟩
        · have hke : k = R.length := by omega
          have HCL : Hid (Bf (bes d.W d.H d.Z d.K) fr tg (.st (i + 1) L' b')) := hid (Bf.close (by have := HB.out; rwa [hke, List.drop_length] at this))
          clear hinv
          go_wp2_with fail
          exact ⟨⟨i + 1, g', cap', L', b', by go_num, rfl, HCL, HV⟩, by simp [intOf]; omega⟩
    · have HDN := hid (HB.out.done hlt)
      clear hinv
      go_wp2_with fail
      rw [Exit.noGoto_ret]
      go_ret
      exact ⟨N, b, rfl, HV.out.ge, HV.out.mv, HDN.out, HV.out.cb.nx⟩
end Go.Proofs.Ytkpnngpnjimogaa
