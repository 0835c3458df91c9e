/-
  The tiles whose heights may not change: the walk of Held of the program.
-/
import Derived.Test.YtpohhcmkkjcelaaSHSort
namespace Go.Proofs.Ytpohhcmkkjcelaa
open Go.RowKit

/-- The tiles between, as the iterator hands them over. -/
def midL (W p q : Nat) : List Int := (List.finRange (cnt (stp W p q) p q)).map (fun i => tl p (stp W p q) i.val)
theorem midL_mem (W p q : Nat) (x : Int) : x ∈ midL W p q ↔ Mid W p q x := by
  unfold midL Mid
  rw [List.mem_map]
  constructor
  · rintro ⟨i, _, e⟩; exact ⟨i.val, i.isLt, e.symm⟩
  · rintro ⟨i, hi, e⟩; exact ⟨⟨i, hi⟩, List.mem_finRange _, e.symm⟩
theorem midL_len (W p q : Nat) : (midL W p q).length = cnt (stp W p q) p q := by simp [midL]
/-- What the first m spans hold, in the order of the list. -/
def pL (W : Nat) (S : Nat → Sp) : Nat → List Int
  | 0 => []
  | m + 1 => pL W S m ++ [(S m).a, (S m).b] ++ (if (S m).k = 0 then midL W (S m).a.toNat (S m).b.toNat else [])
theorem pL_mem {W H : Nat} {Z : Nat → Int} {M : Nat} {S : Nat → Sp} (hr : Rts W H Z M S) (x : Int) : ∀ m, m ≤ M → (x ∈ pL W S m ↔ ∃ i, i < m ∧ HoldP W x (S i)) := by
  intro m
  induction m with
  | zero => intro _; simp [pL]
  | succ m ih =>
    intro hm
    obtain ⟨p, q, e1, e2, _⟩ := (hr m (by omega)).right
    have hone : (x ∈ [(S m).a, (S m).b] ++ (if (S m).k = 0 then midL W (S m).a.toNat (S m).b.toNat else [])) ↔ HoldP W x (S m) := by
      unfold HoldP MidP
      rw [List.mem_append, e1, e2, Int.toNat_natCast, Int.toNat_natCast]
      constructor
      · rintro (h | h)
        · simp at h
          rcases h with h | h
          · exact .inl h.symm
          · exact .inr (.inl h.symm)
        · split at h
          · rename_i h0
            exact .inr (.inr ⟨h0, p, q, rfl, rfl, (midL_mem W p q x).1 h⟩)
          · simp at h
      · rintro (h | h | ⟨h0, p', q', e1', e2', h⟩)
        · exact .inl (by simp [h])
        · exact .inl (by simp [h])
        · obtain rfl : p' = p := by omega
          obtain rfl : q' = q := by omega
          refine .inr ?_
          rw [if_pos h0]
          exact (midL_mem W _ _ x).2 h
    rw [pL, List.append_assoc, List.mem_append, ih (by omega), hone]
    constructor
    · rintro (⟨i, hi, h⟩ | h)
      · exact ⟨i, by omega, h⟩
      · exact ⟨m, by omega, h⟩
    · rintro ⟨i, hi, h⟩
      by_cases hh : i < m
      · exact .inl ⟨i, hh, h⟩
      · obtain rfl : i = m := by omega
        exact .inr h
theorem pL_len {W H : Nat} {Z : Nat → Int} {M : Nat} {S : Nat → Sp} (hr : Rts W H Z M S) (hms : W * H ≤ 1024) : ∀ m, m ≤ M → (pL W S m).length ≤ m * 1026 := by
  intro m
  induction m with
  | zero => intro _; simp [pL]
  | succ m ih =>
    intro hm
    obtain ⟨p, q, e1, e2, h⟩ := (hr m (by omega)).right
    have hb := h.hb
    have hc : cnt (stp W p q) p q ≤ 1024 := by unfold cnt; exact Nat.le_trans (Nat.div_le_self _ _) (by omega)
    rw [pL, List.length_append, List.length_append, e1, e2, Int.toNat_natCast, Int.toNat_natCast]
    have := ih (by omega)
    split
    · rw [midL_len]; simp only [List.length_cons, List.length_nil]; omega
    · simp only [List.length_cons, List.length_nil]; omega
/-- In the land all of it: what is held is what the numbers of tiles that are held are. -/
theorem hold_tile {W H : Nat} {Z : Nat → Int} {M : Nat} {S : Nat → Sp} (hW : 4 ≤ W) (hr : Rts W H Z M S) {i : Nat} (hi : i < M) {x : Int} (h : HoldP W x (S i)) : ∃ t : Nat, x = t ∧ t < W * H := by
  obtain ⟨p, q, e1, e2, hrt⟩ := (hr i hi).right
  have hha := hrt.ha
  have hhb := hrt.hb
  rcases h with h | h | ⟨_, p', q', e1', e2', j, hj, e⟩
  · exact ⟨p, by omega, hha⟩
  · exact ⟨q, by omega, hhb⟩
  · obtain rfl : p' = p := by omega
    obtain rfl : q' = q := by omega
    exact ⟨_, e, mid_tile hW hhb hrt.line.1 hj⟩

theorem compact_own' (B g c n : Nat) (Y : List Int) (hn : Y.length = n) (w : World) (hrow : w.ownsRow B 3 1 (.slice (some ⟨g, 0, none⟩) n c) n (enI Y)) (hl : n < 4611686018427387904) :
    Calls Try.prog 52 #[.slice (some ⟨g, 0, none⟩) n c] w fun e w' => e = .returned (.slice (some ⟨g, 0, none⟩) (Lib.compact Y).length c) ∧
      w'.ownsRow B 3 1 (.slice (some ⟨g, 0, none⟩) (Lib.compact Y).length c) (Lib.compact Y).length (enI (Lib.compact Y)) ∧ Below B w w' := by
  subst hn
  exact compact_own B g c Y w hrow hl
theorem HO.appL {W H : Int} {ao : Option Addr} {n cap : Nat} {Z : Nat → Int} {L : List Int} {w wr w' : World} {v' : Value} {K : List Int} (hI : Ints w ao n Z) (h : LB W H ao n cap Z w wr) (hb : Below (w.heap.size + 1) wr w') (hn : w'.ownsRow (w.heap.size + 1) 3 1 v' (L.length + K.length) (enI L ++ enI K)) : HO W H ao n cap Z (L ++ K) v' w w' :=
  ⟨h.low hI hb, by rw [List.length_append]; unfold enI at hn ⊢; rw [List.map_append]; exact hn⟩

set_option maxRecDepth 20000 in
set_option maxHeartbeats 12800000 in
theorem spheld_to (W H : Int) (ao : Option Addr) (n cap : Nat) (Z : Nat → Int) (hn : n ≤ 9223372036854775807) (lo : Option Addr) (m lcap : Nat) (S : Nat → Sp) (hm : m ≤ 300) (L : List Int) (e : Int) (h : HeldIs W H n Z m S L e) (w : World) (hI : Ints w ao n Z) (hS : SpansAt w lo m S) :
    Calls Try.prog 26 #[lv W H (.slice ao n cap), .slice lo m lcap] w fun r w' => ∃ v, r = .returned (.tuple #[v, .int .i64 e]) ∧ w'.ownsRow w.heap.size 3 1 v L.length (enI L) ∧ Below w.heap.size w w' := by
  have HM := hid (lb_start (W := W) (H := H) (cap := cap) hI)
  have HS := hid hS
  have HI := hid hI
  have hm0 : (0 : Int) ≤ (m : Int) := by omega
  obtain ⟨i0, hi, hz0, hz1, hz2⟩ := info_parts infoI
  have HIN := hid (And.intro hi (And.intro hz0 (And.intro hz1 hz2)))
  clear hi hz0 hz1 hz2
  clear hI hS
  cases h with
  | list e h0 hv =>
    have HV := hid hv
    have g : (e != 0) = true := by simpa using h0
    have g2 : (e == 0) = false := by simpa using h0
    clear hv
    go_enter Try.func26, Try.ntmps26
    go_upto_region 1 with fail
    generalize World.alloc w _ = wm at HM ⊢
    have c0 := HM.out.c0; have c1 := HM.out.c1; have c2 := HM.out.c2; have hz := HM.out.size
    go_wp2_with (go_at_call 36; (with_reducible refine (validateList_to W H ao n cap Z hn _ m lcap S hm e HV.out _ HM.out.ints (HS.out.stays HM.out.below)).mono ?_); rintro e w1 ⟨rfl, hb⟩; have HN := hid (HM.out.stays hb); clear hb c0 c1 c2 hz HM; have HM := HN; clear HN; have c0 := HM.out.c0; have c1 := HM.out.c1; have c2 := HM.out.c2; have hz := HM.out.size)
    go_ret2
    exact ⟨_, rfl, World.ownsRow_nil _ _ _ _, HM.out.below⟩
  | ok hb hv hhb =>
    have HV := hid hv
    obtain ⟨W, H, rfl, rfl, hg, ha, hr⟩ := hv.right
    obtain ⟨hW1, hW2, hH1, hH2⟩ := hg.side
    have hms := mul_small hW2 hH2
    rw [Int.toNat_natCast, Int.toNat_natCast]
    rw [Int.toNat_natCast] at hhb
    have HEQ : Hid (∀ x, x ∈ pL W S m ↔ x ∈ hL hb (W * H)) := hid (fun x => by
      rw [pL_mem hr x m (Nat.le_refl _), hL_mem]
      constructor
      · rintro ⟨i, hi, h⟩
        obtain ⟨t, rfl, ht⟩ := hold_tile hW1 hr hi h
        exact ⟨t, rfl, ht, (hhb t).2 ⟨i, hi, h⟩⟩
      · rintro ⟨t, rfl, ht, h⟩
        exact (hhb t).1 h)
    have HLEN := hid (pL_len hr hms)
    have HR := hid hr
    clear hv hg ha hr hhb
    go_enter Try.func26, Try.ntmps26
    go_upto_region 1 with fail
    generalize World.alloc w _ = wm at HM ⊢
    have c0 := HM.out.c0; have c1 := HM.out.c1; have c2 := HM.out.c2; have hz := HM.out.size
    go_wp2_with (go_at_call 36; (with_reducible refine (validateList_to W H ao n cap Z hn _ m lcap S hm 0 HV.out _ HM.out.ints (HS.out.stays HM.out.below)).mono ?_); rintro e w1 ⟨rfl, hb⟩; have HN := hid (HM.out.stays hb); clear hb c0 c1 c2 hz HM; have HM := HN; clear HN; have c0 := HM.out.c0; have c1 := HM.out.c1; have c2 := HM.out.c2; have hz := HM.out.size)
    have HN : Hid (HO W H ao n cap Z (pL W S 0) (.slice none 0 0) w _) := hid ⟨HM.out, World.ownsRow_nil _ _ _ _⟩
    clear c0 c1 c2 hz HM
    go_loopw [7, 18] (fun v iv wr => ∃ i : Nat, i ≤ m ∧ iv = .int .i64 i ∧ Hid (HO W H ao n cap Z (pL W S i) v w wr)) (fun _ iv _ => m - (intOf iv).toNat)
    case atStart => exact ⟨0, Nat.zero_le _, rfl, HN⟩
    case round =>
      obtain ⟨i, hi, rfl, hB⟩ := hrel
      clear HN
      by_cases hlt : i < m
      · obtain ⟨bl, off, rfl, hbz, q0, q1, q2, q3⟩ := (HS.out.stays hB.out.lb.below) i hlt
        obtain ⟨p, q, e1, e2, hrt⟩ := (HR.out i hlt).right
        obtain ⟨k, hkk⟩ : ∃ k, k = (S i).k := ⟨_, rfl⟩
        obtain ⟨u, hu⟩ : ∃ u, u = (S i).u := ⟨_, rfl⟩
        obtain ⟨y, hy⟩ : ∃ y, y = off + i * 4 := ⟨_, rfl⟩
        have ey : off + i * 4 = y := hy.symm
        rw [ey] at q0 q1 q2 q3
        rw [e1] at q1
        rw [e2] at q2
        rw [← hkk] at q0
        rw [← hu] at q3
        have hp2 : p ≤ 1024 := by have := hrt.ha; omega
        have hq2 : q ≤ 1024 := by have := hrt.hb; omega
        have HL := hid hrt.line
        have hlen := HLEN.out i (by omega)
        have hi0 : (0 : Int) ≤ (i : Int) := by omega
        have hi1 : (i : Int) < (m : Int) := by omega
        have HP : Hid (pL W S (i + 1) = pL W S i ++ [(p : Int), (q : Int)] ++ (if k = 0 then midL W p q else [])) := hid (by rw [pL, e1, e2, ← hkk, Int.toNat_natCast, Int.toNat_natCast])
        generalize pL W S i = LL at HP hB hlen
        have hz := hB.out.lb.size
        have c0 := hB.out.lb.c0; have c1 := hB.out.lb.c1; have c2 := hB.out.lb.c2
        clear hkk hu hy hrt e1 e2
        go_upto_region 8 with fail
        have HB9 := hid (hB.out.stays (Joins.below_alloc1 wr (.cells #[.int .i64 k, .int .i64 p, .int .i64 q, .int .i64 u] 26)))
        have FG := hid (World.alloc_heap_new wr (.cells #[.int .i64 k, .int .i64 p, .int .i64 q, .int .i64 u] 26))
        generalize World.alloc wr _ = wq at HB9 FG ⊢
        generalize wr.heap.size = g at FG ⊢
        clear c0 c1 c2 q0 q1 q2 q3 hz hbz
        obtain ⟨b0, b1, b2, b3, _, _, _, _, hgz⟩ := bx_facts4 FG.out
        have hz := HB9.out.lb.size
        go_upto_region 9 with (at_builtin; refine wpList_append_own _ rfl _ _ 22 rfl (w.heap.size + 1) 3 i0 (.int .i64 0) 1 8 Try.underlying22 HIN.out.1 HIN.out.2.1 HIN.out.2.2.1 HIN.out.2.2.2 rfl (by decide) _ _ _ rfl (HB9.out.row.alloc _) ⟨wq.heap.size, 0, none⟩ 2 2 [.int .i64 p, .int .i64 q] rfl rfl ?k1 ?k2 ?k3 ?k4 ?k5 ?_)
        try (case k1 =>
          intro j u hj
          match j, hj with
          | 0, hj => simp at hj; subst hj; simp [Addr.add]
          | 1, hj => simp at hj; subst hj; simp [Addr.add])
        try (case k2 => intro u hu; simp at hu; rcases hu with rfl | rfl <;> rfl)
        try (case k3 => unfold maxLen; omega)
        try (case k4 => omega)
        try (case k5 => simp; omega)
        intro v' w5 hown hgrow _
        have hgl : some g ≠ u7.ownBlock := row_ne HB9.out.row FG.out (by decide)
        have F5 := hid ((hgrow.block g (by simp; omega) hgl).trans ((Below.heap_alloc _ _ g hgz).trans FG.out))
        have hb5 : Below (w.heap.size + 1) wq w5 := ((Below.refl _ wq).alloc (by omega) _).grown hgrow (by simp; omega) (fun j hj => (HB9.out.row.lt j hj).1)
        have H5 := hid (HO.appL (L := LL) (K := [(p : Int), (q : Int)]) HI.out HB9.out.lb hb5 hown)
        obtain ⟨vo, vc, rfl⟩ := row_slice hown
        have HROW := hid hown
        clear hown hgrow hgl hb5 HB9 FG b0 b1 b2 b3 hgz hz hB
        obtain ⟨b0, b1, b2, b3, _, _, _, _, hgz⟩ := bx_facts4 F5.out
        have c0 := H5.out.lb.c0; have c1 := H5.out.lb.c1; have c2 := H5.out.lb.c2; have hz := H5.out.lb.size
        go_upto_region 9 with fail
        by_cases hk0 : k = 0
        · have HP0 : Hid (pL W S (i + 1) = LL ++ [(p : Int), (q : Int)] ++ midL W p q) := hid (by rw [HP.out, if_pos hk0])
          subst hk0
          clear HP
          have hM6 := mb_start (W := W) (H := H) (cap := cap) (k := 0) (a := p) (b := q) (u := u) H5.out.lb.ints
          have hsp6 := World.alloc_heap_new (w5.alloc (.cells #[.int .i64 W, .int .i64 H, .slice ao n cap] 24)) (.cells #[.int .i64 0, .int .i64 p, .int .i64 q, .int .i64 u] 26)
          rw [World.size_alloc] at hsp6
          have hb6 : Below (w.heap.size + 1) w5 ((w5.alloc (.cells #[.int .i64 W, .int .i64 H, .slice ao n cap] 24)).alloc (.cells #[.int .i64 0, .int .i64 p, .int .i64 q, .int .i64 u] 26)) := ((Below.refl _ w5).alloc (by omega) _).alloc (by simp; omega) _
          have hr6 := (HROW.out.alloc (.cells #[.int .i64 W, .int .i64 H, .slice ao n cap] 24)).alloc (.cells #[.int .i64 0, .int .i64 p, .int .i64 q, .int .i64 u] 26)
          have X6 := hid (And.intro hM6 (And.intro hsp6 (And.intro hb6 hr6)))
          clear hM6 hsp6 hb6 hr6
          have hc2 : cnt (stp W p q) p q ≤ 1024 := by unfold cnt; exact Nat.le_trans (Nat.div_le_self _ _) (by omega)
          go_wp2_with (go_at_call 50; refine (between_any W H _ 0 p q u _).mono ?_; rintro e w' ⟨rfl, rfl⟩)
          refine (appendSeq_any hW1 hW2 ao n cap Z 0 u hp2 hq2 HL.out (stp W p q) (cnt (stp W p q) p q) rfl rfl hc2 (w.heap.size + 1) _ (LL.length + 2) _ w5 _ w5.heap.size rfl X6.out.1 _ X6.out.2.1 X6.out.2.2.2 (by simp; omega) (by omega)).mono ?_
          rintro e w7 ⟨v2, rfl, hrow2, hb7⟩
          have hb67 := X6.out.2.2.1.trans hb7
          have H7 := hid (HO.appL (L := LL ++ [(p : Int), (q : Int)]) (K := midL W p q) HI.out H5.out.lb hb67 (by rw [List.length_append, midL_len]; unfold enI midL; rw [List.map_append, List.map_map]; exact hrow2))
          clear hrow2 hb7 hb67 X6 c0 c1 c2 hz b0 b1 b2 b3 hgz
          go_wp2_with fail
          go_roundw
          case rel => exact ⟨i + 1, by omega, by go_num, by rw [HP0.out]; exact H7⟩
          case measure => simp [intOf]; omega
        · have g3 : (k == 0) = false := by rw [beq_eq_false_iff_ne]; exact hk0
          have HP0 : Hid (pL W S (i + 1) = LL ++ [(p : Int), (q : Int)]) := hid (by rw [HP.out, if_neg hk0, List.append_nil])
          clear HP hk0
          go_wp2_with fail
          go_roundw
          case rel => exact ⟨i + 1, by omega, by go_num, by rw [HP0.out]; exact H5⟩
          case measure => simp [intOf]; omega
      · obtain rfl : i = m := by omega
        have hlen := HLEN.out i (by omega)
        have HC : Hid (Lib.compact ((pL W S i).mergeSort fun x y => decide (x ≤ y)) = hL hb (W * H)) := hid (compact_sorted _ _ (hL_asc hb _) HEQ.out)
        have HE := HEQ
        generalize pL W S i = X at HE HC hB hlen
        obtain ⟨R, hRR⟩ : ∃ R, R = hL hb (W * H) := ⟨_, rfl⟩
        rw [← hRR] at HE HC
        have HRR := hid hRR
        clear hRR
        clear HEQ HLEN
        by_cases h0 : X.length = 0
        · obtain rfl : X = [] := List.length_eq_zero_iff.1 h0
          have hR : R = [] := by
            rw [List.eq_nil_iff_forall_not_mem]
            intro x hx
            have := (HE.out x).2 hx
            simp at this
          subst hR
          have hrow : wr.ownsRow (w.heap.size + 1) 3 1 u7 0 [] := hB.out.row
          obtain ⟨vo, vc, rfl⟩ := row_slice hrow
          have HROW := hid hrow
          clear hrow hlen h0
          go_wp2_with (first | (go_at_call 51; refine (Try.slices_Sort_int_none _ _ _).mono ?_; rintro e w1 ⟨rfl, rfl⟩) | (go_at_call 52; refine (Try.slices_Compact_int_empty _ _ _).mono ?_; rintro e w1 ⟨rfl, rfl⟩))
          go_ret2
          exact ⟨_, rfl, (by have h := row_mono (base' := w.heap.size) HROW.out (Nat.le_succ _); rw [← HRR.out]; exact h), hB.out.lb.below⟩
        · obtain ⟨g, c, rfl, _, _⟩ := hB.out.row.form (by omega)
          have HROW := hid hB.out.row
          have HBB := hid hB.out.lb.below
          clear hB
          go_wp2_with (first | (go_at_call 51; refine (sort_own (w.heap.size + 1) g c X _ HROW.out (by omega)).mono ?_; rintro e w1 ⟨rfl, hrow, hbw⟩; have HR1 := hid hrow; have HB1 := hid (HBB.out.trans (hbw.mono (by omega))); clear hrow hbw) | (go_at_call 52; refine (compact_own' (w.heap.size + 1) g c X.length _ (srt_len X) _ HR1.out (by omega)).mono ?_; rw [HC.out]; rintro e w1 ⟨rfl, hrow, hbw⟩; have HR2 := hid hrow; have HB2 := hid (HB1.out.trans (hbw.mono (by omega))); clear hrow hbw))
          go_ret2
          exact ⟨_, rfl, (by have h := row_mono (base' := w.heap.size) HR2.out (Nat.le_succ _); rw [← HRR.out]; exact h), HB2.out⟩
end Go.Proofs.Ytpohhcmkkjcelaa
