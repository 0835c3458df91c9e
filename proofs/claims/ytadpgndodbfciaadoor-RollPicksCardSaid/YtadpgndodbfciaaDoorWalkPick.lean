/-
  The walks of Pick, of the program and of the reference.
-/
import Derived.Test.YtadpgndodbfciaaDoorLawBelow
namespace Go.Proofs.YtadpgndodbfciaaDoor
open Go.RowKit

/-- What a weight counts. -/
def wt (z : Int) : Int := if z < 0 then 0 else if 1048576 < z then 1048576 else z
theorem wt_bd (z : Int) : 0 ≤ wt z ∧ wt z ≤ 1048576 := by unfold wt; (repeat' split) <;> omega
theorem wt_pos {z : Int} (h : 0 < wt z) : 0 < z := by unfold wt at h; (repeat' split at h) <;> omega
/-- The sum of the weights. -/
def sumW : List Int → Int
  | [] => 0
  | z :: l => wt z + sumW l
theorem sumW_bd (l : List Int) : 0 ≤ sumW l ∧ sumW l ≤ 1048576 * l.length := by
  induction l with
  | nil => simp [sumW]
  | cons z l ih => have := wt_bd z; simp only [sumW, List.length_cons]; omega
theorem sumW_snoc (l : List Int) (z : Int) : sumW (l ++ [z]) = sumW l + wt z := by
  induction l with
  | nil => simp [sumW]
  | cons y l ih => simp only [List.cons_append, sumW, ih]; omega
/-- The first place, from the i-th on, at which the sum of the weights is above k; or -1. -/
def place : List Int → Int → Int → Int
  | [], _, _ => -1
  | z :: l, k, i => if k < wt z then i else place l (k - wt z) (i + 1)
theorem place_found {l : List Int} : ∀ {k i : Int}, 0 ≤ k → place l k i = -1 ∨ ∃ j : Nat, j < l.length ∧ place l k i = i + j ∧ 0 < l.getD j 0 := by
  induction l with
  | nil => exact fun _ => Or.inl rfl
  | cons z l ih =>
    intro k i hk
    unfold place
    split
    · exact Or.inr ⟨0, by simp, by simp, by simpa using wt_pos (by omega)⟩
    · rcases ih (k := k - wt z) (i := i + 1) (by omega) with h | ⟨j, h1, h2, h3⟩
      · exact Or.inl h
      · exact Or.inr ⟨j + 1, by simp; omega, by rw [h2]; omega, by simpa using h3⟩
theorem place_none {l : List Int} : ∀ {i : Int}, sumW l = 0 → place l 0 i = -1 := by
  induction l with
  | nil => exact fun _ => rfl
  | cons z l ih =>
    intro i h
    have h1 := wt_bd z
    have h2 := sumW_bd l
    simp only [sumW] at h
    have hz : wt z = 0 := by omega
    unfold place
    rw [if_neg (by omega), hz]
    exact ih (by omega)

theorem sumW_take (l : List Int) (j : Nat) (h : j < l.length) : sumW (l.take (j + 1)) = sumW (l.take j) + wt (l.getD j 0) := by
  rw [List.take_succ_eq_append_getElem h, sumW_snoc]; simp [h]
theorem place_step (l : List Int) (k : Int) (j : Nat) (h : j < l.length) : place (l.drop j) (k - sumW (l.take j)) j =
    if k - sumW (l.take j) < wt (l.getD j 0) then (j : Int) else place (l.drop (j + 1)) (k - sumW (l.take (j + 1))) ((j + 1 : Nat) : Int) := by
  rw [List.drop_eq_getElem_cons h, sumW_take l j h, place]
  simp only [List.getD_eq_getElem?_getD, List.getElem?_eq_getElem h, Option.getD_some]
  split
  · rfl
  · congr 1; omega

theorem wt_lo {z : Int} (h : z < 0) : 0 = wt z := by unfold wt; rw [if_pos h]
theorem wt_hi {z : Int} (h : 1048576 < z) : 1048576 = wt z := by unfold wt; rw [if_neg (by omega), if_pos h]
theorem wt_in {z : Int} (h : 0 ≤ z) (h' : z ≤ 1048576) : z = wt z := by unfold wt; rw [if_neg (by omega), if_neg (by omega)]
set_option maxHeartbeats 400000 in
theorem bounded_any (z : Int) (w : World) : Calls Tryd.prog 37 #[.int .i64 z] w fun e w' => e = .returned (.int .i64 (wt z)) ∧ w = w' := by
  rcases (show z < 0 ∨ 1048576 < z ∨ (0 ≤ z ∧ z ≤ 1048576) by omega) with h | h | ⟨h, h'⟩
  all_goals
    go_enter Tryd.func37, Tryd.ntmps37
    go_wp2
    go_ret
  · exact ⟨ret_int (wt_lo h), rfl⟩
  · exact ⟨ret_int (wt_hi h), rfl⟩
  · exact ⟨ret_int (wt_in h h'), rfl⟩
set_option maxHeartbeats 400000 in
theorem weight_any (z : Int) (w : World) : Calls Tryd.prog 36 #[.int .i64 z] w fun e w' => e = .returned (.int .i64 (wt z)) ∧ w = w' := by
  rcases (show z < 0 ∨ 1048576 < z ∨ z = 0 ∨ (0 < z ∧ z ≤ 1048576) by omega) with h | h | rfl | ⟨h, h'⟩
  all_goals
    go_enter Tryd.func36, Tryd.ntmps36
    go_wp2
    go_ret
  · exact ⟨ret_int (wt_lo h), rfl⟩
  · exact ⟨ret_int (wt_hi h), rfl⟩
  · exact ⟨rfl, rfl⟩
  · exact ⟨ret_int (wt_in (by omega) h'), rfl⟩

/-- The slice at an address holds these numbers. -/
def Ints (w : World) (ao : Option Addr) (Z : List Int) : Prop :=
  ∀ j : Nat, j < Z.length → ∃ b off : Nat, ao = some ⟨b, off, none⟩ ∧ b < w.heap.size ∧ w.cell? ⟨b, off + j, none⟩ = some (.int .i64 (Z.getD j 0))
theorem Ints.stays {w w' : World} {ao : Option Addr} {Z : List Int} (h : Ints w ao Z) (hb : Below w.heap.size w w') : Ints w' ao Z := fun j hj => by
  obtain ⟨b, off, e, hz, hc⟩ := h j hj
  exact ⟨b, off, e, by have := hb.size; omega, (hb.cell (p := ⟨b, off + j, none⟩) hz).trans hc⟩

set_option maxHeartbeats 800000 in
theorem placeOf_any (ao : Option Addr) (Z : List Int) (cap : Nat) (k : Int) (hZ : Z.length ≤ 4000) (w : World) (hI : Ints w ao Z) :
    Calls Tryd.prog 38 #[.slice ao Z.length cap, .int .i64 k] w fun e w' => e = .returned (.int .i64 (place Z k 0)) ∧ w = w' := by
  have HI := hid hI
  clear hI
  go_enter Tryd.func38, Tryd.ntmps38
  go_wp2
  go_loop [5, 10] (fun t i => ∃ j : Nat, j ≤ Z.length ∧ i = .int .i64 j ∧ t = .int .i64 (sumW (Z.take j)) ∧ Hid (place Z k 0 = place (Z.drop j) (k - sumW (Z.take j)) j)) (fun _ i => Z.length - (intOf i).toNat)
  case atStart => exact ⟨0, Nat.zero_le _, rfl, rfl, hid (by simp [sumW])⟩
  case round =>
    obtain ⟨j, hj, rfl, rfl, hp⟩ := hrel
    have hb := sumW_bd (Z.take j)
    have hl : (Z.take j).length ≤ j := List.length_take_le _ _
    have hb1 : sumW (Z.take j) ≤ 4194304000 := by omega
    have hb0 := hb.1
    clear hb hl
    by_cases hlt : j < Z.length
    · obtain ⟨b, off, rfl, hz, hc⟩ := HI.out j hlt
      obtain ⟨z, hz'⟩ : ∃ z, z = Z.getD j 0 := ⟨_, rfl⟩
      rw [← hz'] at hc
      have hs := sumW_take Z j hlt
      have hst := place_step Z k j hlt
      rw [← hz'] at hs hst
      have HS := hid hs
      have HST := hid hst
      have hwb := wt_bd z
      clear hz' hs hst
      by_cases hk : k < sumW (Z.take j) + wt z
      · go_wp2_with (go_at_call 37; refine (bounded_any _ _).mono ?_; rintro e w' ⟨rfl, rfl⟩)
        go_ret
        exact ⟨ret_int (by rw [hp.out, HST.out, if_pos (by omega)]), rfl⟩
      · go_wp2_with (go_at_call 37; refine (bounded_any _ _).mono ?_; rintro e w' ⟨rfl, rfl⟩)
        go_round
        case rel => exact ⟨j + 1, by omega, by go_num, by rw [HS.out], hid (by rw [hp.out, HST.out, if_neg (by omega)])⟩
        case measure => simp [intOf]; omega
    · go_wp2
      go_ret
      exact ⟨ret_int (by rw [hp.out, List.drop_of_length_le (by omega)]; rfl), rfl⟩

/-- Pick hands back the place that is chosen, and the stream behind it. -/
def PickIs (s : Int) (Z : List Int) (w : World) (e : Ending) (w' : World) : Prop :=
  (sumW Z = 0 ∧ e = .returned (.tuple #[.int .i64 (-1), .agg #[.int .u64 s]]) ∧ Below w.heap.size w w') ∨
  (0 < sumW Z ∧ ∃ k : Nat, Found s (sumW Z) k ∧ e = .returned (.tuple #[.int .i64 (place Z (numAt s k % sumW Z) 0), .agg #[.int .u64 (skipTo s k)]]) ∧ Below w.heap.size w w')

set_option maxHeartbeats 800000 in
theorem refpick_long (s : Int) (ao : Option Addr) (len cap : Nat) (h : 1000 < len) (h' : len ≤ 4000) (w : World) :
    Calls Tryd.prog 24 #[.agg #[.int .u64 s], .slice ao len cap] w fun e w' => e = .returned (.tuple #[.int .i64 (-1), .agg #[.int .u64 s]]) ∧ Below w.heap.size w w' := by
  have g1 : decide ((len : Int) ≤ 1000) = false := by simp; omega
  go_enter Tryd.func24, Tryd.ntmps24
  go_wp2
  refine wp_loop_rounds 1 ?_
  rw [rounds_succ]
  go_wp2
  go_region
  go_wp2
  exact bodyPost_ret (v := .tuple #[.int .i64 (-1), .agg #[.int .u64 s]]) (by simp [results, Tryd.results24, go_sem]) rfl ⟨rfl, (Joins.below_alloc2 _ _ _).drew⟩

set_option maxHeartbeats 800000 in
theorem pick_long (s : Int) (ao : Option Addr) (len cap : Nat) (h : 1000 < len) (h' : len ≤ 4000) (w : World) :
    Calls Tryd.prog 25 #[.agg #[.int .u64 s], .slice ao len cap] w fun e w' => e = .returned (.tuple #[.int .i64 (-1), .agg #[.int .u64 s]]) ∧ Below w.heap.size w w' := by
  go_enter Tryd.func25, Tryd.ntmps25
  go_wp2
  go_region
  go_wp2
  exact bodyPost_ret (v := .tuple #[.int .i64 (-1), .agg #[.int .u64 s]]) (by simp [results, Tryd.results25, go_sem]) rfl ⟨rfl, (Joins.below_alloc2 _ _ _).drew⟩

set_option maxHeartbeats 1600000 in
theorem refpick_any (s : Int) (ao : Option Addr) (Z : List Int) (cap : Nat) (hZ : Z.length ≤ 1000) (w : World) (hI : Ints w ao Z) :
    Calls Tryd.prog 24 #[.agg #[.int .u64 s], .slice ao Z.length cap] w (PickIs s Z w) := by
  have HI := hid hI
  have hsb := sumW_bd Z
  clear hI
  have g1 : decide ((Z.length : Int) ≤ 1000) = true := by simp; omega
  go_enter Tryd.func24, Tryd.ntmps24
  go_wp2
  go_loop [6, 7] (fun t i => ∃ j : Nat, j ≤ Z.length ∧ i = .int .i64 j ∧ t = .int .i64 (sumW (Z.take j))) (fun _ i => Z.length - (intOf i).toNat)
  case atStart => exact ⟨0, Nat.zero_le _, rfl, rfl⟩
  case round =>
    obtain ⟨j, hj, rfl, rfl⟩ := hrel
    have hb := sumW_bd (Z.take j)
    have hl : (Z.take j).length ≤ j := List.length_take_le _ _
    have hb1 : sumW (Z.take j) ≤ 1048576000 := by omega
    have hb0 := hb.1
    clear hb hl
    by_cases hlt : j < Z.length
    · obtain ⟨b, off, rfl, hz, hc⟩ := HI.out j hlt
      obtain ⟨z, hz'⟩ : ∃ z, z = Z.getD j 0 := ⟨_, rfl⟩
      rw [← hz'] at hc
      have hs := sumW_take Z j hlt
      rw [← hz'] at hs
      have HS := hid hs
      have hwb := wt_bd z
      clear hz' hs
      go_wp2_with (go_at_call 36; refine (weight_any _ _).mono ?_; rintro e w' ⟨rfl, rfl⟩)
      go_round
      case rel => exact ⟨j + 1, by omega, by go_num, by rw [HS.out]⟩
      case measure => simp [intOf]; omega
    · obtain ⟨S, hS⟩ : ∃ S, S = sumW Z := ⟨_, rfl⟩
      have e1 : sumW (Z.take j) = S := by rw [List.take_of_length_le (by omega), hS]
      rw [e1]
      rw [e1] at hb0 hb1
      rw [← hS] at hsb
      have HSS := hid hS
      clear e1 hS
      by_cases h0 : S = 0
      · have h0' : (S == 0) = true := by simp [h0]
        have H0 := hid h0
        clear h0
        go_wp2
        go_region
        go_wp2
        exact bodyPost_ret (v := .tuple #[.int .i64 (-1), .agg #[.int .u64 s]]) (by simp [results, Tryd.results24, go_sem]) rfl (Or.inl ⟨HSS.out.symm.trans H0.out, rfl, (Joins.below_alloc2 _ _ _).drew⟩)
      · have h0' : (S == 0) = false := by simp [h0]
        have hpos : 1 ≤ S := by omega
        clear h0
        go_wp2_with fail
        refine (refbelow_any s S hpos (by omega) _).mono ?_
        rintro e w1 ⟨k, hk, rfl, hb1'⟩
        have hs1 := hb1'.size
        rw [World.size_alloc, World.size_alloc] at hs1
        have c1 : w1.cell? ⟨w.heap.size + 1, 0, none⟩ = some (.int .u64 0) := by
          rw [hb1'.cell (p := ⟨w.heap.size + 1, 0, none⟩) (by simp)]; simp
        have f1 : w1.frozen? ⟨w.heap.size + 1, 0, none⟩ = false := by
          rw [hb1'.frozen (p := ⟨w.heap.size + 1, 0, none⟩) (by simp)]; simp
        have hz1 : w.heap.size + 1 < w1.heap.size := by omega
        have HB := hid ((Joins.below_alloc2 w _ _).trans (hb1'.mono (by simp; omega)))
        have HK := hid hk
        obtain ⟨v, hv⟩ : ∃ v, v = skipTo s (k : Int) := ⟨_, rfl⟩
        obtain ⟨x, hx⟩ : ∃ x, x = numAt s (k : Int) % S := ⟨_, rfl⟩
        rw [← hv, ← hx]
        have hx0 : 0 ≤ x := by rw [hx]; exact Int.emod_nonneg _ (by omega)
        have hx1 : x < S := by rw [hx]; exact Int.emod_lt_of_pos _ (by omega)
        have HV := hid hv
        have HX := hid hx
        have HI1 := hid (fun o => Ints.stays HI.out (add HB.out o))
        clear hb1' hk hs1 hv hx
        have hcell := fun o => show ((w1.setCell ⟨w.heap.size + 1, 0, none⟩ (.int .u64 v)).alloc o).cell? ⟨w.heap.size + 1, 0, none⟩ = some (.int .u64 v) by
          rw [World.cell?_alloc_past _ _ _ (by rw [World.size_setCell]; exact hz1)]; exact World.cell?_setCell_same _ _ _ c1
        have HC := hid hcell
        have hfin : ∀ e W' p, e = .returned (.tuple #[.int .i64 p, .agg #[.int .u64 v]]) → place Z x 0 = p → Below w.heap.size w W' → PickIs s Z w e W' := by
          intro e W' p he hp hbW
          refine Or.inr ⟨by rw [← HSS.out]; omega, k, by rw [← HSS.out]; exact HK.out, ?_, hbW⟩
          rw [← HSS.out, ← HX.out, ← HV.out, hp]; exact he
        have HF := hid hfin
        clear hcell hfin
        go_wp2
        go_loop [8, 41] (fun t i => ∃ j : Nat, j ≤ Z.length ∧ i = .int .i64 j ∧ 0 ≤ x - sumW (Z.take j) ∧ t = .int .i64 (x - sumW (Z.take j)) ∧ Hid (place Z x 0 = place (Z.drop j) (x - sumW (Z.take j)) j)) (fun _ i => Z.length - (intOf i).toNat)
        case atStart => exact ⟨0, Nat.zero_le _, rfl, by simp [sumW]; omega, by simp [sumW], hid (by simp [sumW])⟩
        case round =>
          obtain ⟨j', hj', rfl, ht, rfl, hp⟩ := hrel
          have hb := sumW_bd (Z.take j')
          have hb2 := hb.1
          clear hb
          by_cases hlt' : j' < Z.length
          · obtain ⟨b, off, rfl, hz, hc⟩ := HI1.out (.cells #[.int .u64 v] 25) j' hlt'
            obtain ⟨z, hz'⟩ : ∃ z, z = Z.getD j' 0 := ⟨_, rfl⟩
            rw [← hz'] at hc
            have hs := sumW_take Z j' hlt'
            have hst := place_step Z x j' hlt'
            rw [← hz'] at hs hst
            have HS := hid hs
            have HST := hid hst
            have hwb := wt_bd z
            clear hz' hs hst
            by_cases hk : x - sumW (Z.take j') < wt z
            · go_wp2_with (go_at_call 36; refine (weight_any _ _).mono ?_; rintro e w' ⟨rfl, rfl⟩)
              go_region
              go_wp2
              have hcell := HC.out
              refine bodyPost_ret (v := .tuple #[.int .i64 j', .agg #[.int .u64 v]]) (by simp [results, Tryd.results24, go_sem, hcell]) rfl (HF.out _ _ _ rfl (by rw [hp.out, HST.out, if_pos hk]) ?_)
              exact ((HB.out.setCell (p := ⟨w.heap.size + 1, 0, none⟩) (Nat.le_succ _) _).alloc (by rw [World.size_setCell]; omega) _).drew
            · go_wp2_with (go_at_call 36; refine (weight_any _ _).mono ?_; rintro e w' ⟨rfl, rfl⟩)
              go_round
              case rel => exact ⟨j' + 1, by omega, by go_num, by rw [HS.out]; omega, by rw [HS.out]; go_num, hid (by rw [hp.out, HST.out, if_neg (by omega)])⟩
              case measure => simp [intOf]; omega
          · go_wp2
            go_region
            go_wp2
            have hcell := HC.out
            refine bodyPost_ret (v := .tuple #[.int .i64 (-1), .agg #[.int .u64 v]]) (by simp [results, Tryd.results24, go_sem, hcell]) rfl (HF.out _ _ _ rfl (by rw [hp.out, List.drop_of_length_le (by omega)]; rfl) ?_)
            exact ((HB.out.setCell (p := ⟨w.heap.size + 1, 0, none⟩) (Nat.le_succ _) _).alloc (by rw [World.size_setCell]; omega) _).drew
set_option maxHeartbeats 800000 in
theorem draw_none (a n : Int) (h1 : n < 1) (b c : Nat) (w : World) (hc : w.cell? ⟨c, 0, none⟩ = some (.pointer (some ⟨b, 0, none⟩)))
    (hb : w.cell? ⟨b, 0, none⟩ = some (.int .u64 a)) (hbf : w.frozen? ⟨b, 0, none⟩ = false) (hbz : b < w.heap.size) (hcz : c < w.heap.size) :
    Calls Tryd.prog 44 #[.int .i64 n, .pointer (some ⟨c, 0, none⟩)] w fun e w' => e = .returned (.int .i64 0) ∧ But b (.int .u64 a) w w' := by
  go_enter Tryd.func44, Tryd.ntmps44
  go_wp2_with fail
  refine (below_none a n h1 _).mono ?_
  rintro e w1 ⟨rfl, hb1⟩
  have c1 : w1.cell? ⟨c, 0, none⟩ = some (.pointer (some ⟨b, 0, none⟩)) := (hb1.cell (p := ⟨c, 0, none⟩) hcz).trans hc
  have d1 : w1.cell? ⟨b, 0, none⟩ = some (.int .u64 a) := (hb1.cell (p := ⟨b, 0, none⟩) hbz).trans hb
  have f1 : w1.frozen? ⟨b, 0, none⟩ = false := (hb1.frozen (p := ⟨b, 0, none⟩) hbz).trans hbf
  have hz1 := hb1.size
  have hbz1 : b < w1.heap.size := by omega
  have hcz1 : c < w1.heap.size := by omega
  have HB := hid (show ∀ o v, But b v w ((w1.setCell ⟨b, 0, none⟩ v).alloc o) from fun o v => but_of hb1 hbz d1)
  clear hb1 hc hb hbf hbz hcz
  go_wp2
  go_ret
  exact ⟨rfl, HB.out _ _⟩

theorem found_ex (a : Int) {n : Int} (h1 : 1 ≤ n) (h2 : n ≤ 9223372036854775807) : ∃ k : Nat, Found a n k := by
  obtain ⟨K, hK1, hK2⟩ := hit a
  obtain ⟨k, ⟨k1, k2⟩, k3⟩ := exists_least (p := fun k : Nat => 1 ≤ k ∧ numAt a k < lim n) ⟨K, hK1, taken_zero h1 h2 hK2⟩
  refine ⟨k, k1, k2, fun j hj hjk => ?_⟩
  by_cases h : lim n ≤ numAt a j
  · exact h
  · have := k3 j ⟨hj, by omega⟩; omega

/-- Both draws, under one name: the number x and the stream v behind it. -/
def DrawTo (b : Nat) (x v : Int) (w : World) (e : Ending) (w' : World) : Prop := e = .returned (.int .i64 x) ∧ But b (.int .u64 v) w w'

set_option maxHeartbeats 1600000 in
theorem pick_rest (s : Int) (ao : Option Addr) (Z : List Int) (cap : Nat) (hZ : Z.length ≤ 1000) (w : World) (hI : Ints w ao Z) (x v : Int) (R : Ending → World → Prop)
    (hd : ∀ w1 : World, w1.cell? ⟨w.heap.size + 2, 0, none⟩ = some (.pointer (some ⟨w.heap.size, 0, none⟩)) → w1.cell? ⟨w.heap.size, 0, none⟩ = some (.int .u64 s) → w1.frozen? ⟨w.heap.size, 0, none⟩ = false → w.heap.size < w1.heap.size → w.heap.size + 2 < w1.heap.size →
      Calls Tryd.prog 44 #[.int .i64 (sumW Z), .pointer (some ⟨w.heap.size + 2, 0, none⟩)] w1 (DrawTo w.heap.size x v w1))
    (hR : ∀ e W', e = .returned (.tuple #[.int .i64 (place Z x 0), .agg #[.int .u64 v]]) → Below w.heap.size w W' → R e W') :
    Calls Tryd.prog 25 #[.agg #[.int .u64 s], .slice ao Z.length cap] w R := by
  have HI := hid hI
  have HD := hid hd
  have HR := hid hR
  have hsb := sumW_bd Z
  clear hI hd hR
  go_enter Tryd.func25, Tryd.ntmps25
  go_wp2
  go_loop [6, 17] (fun t i => ∃ j : Nat, j ≤ Z.length ∧ i = .int .i64 j ∧ t = .int .i64 (sumW (Z.take j))) (fun _ i => Z.length - (intOf i).toNat)
  case atStart => exact ⟨0, Nat.zero_le _, rfl, rfl⟩
  case round =>
    obtain ⟨j, hj, rfl, rfl⟩ := hrel
    have hb := sumW_bd (Z.take j)
    have hl : (Z.take j).length ≤ j := List.length_take_le _ _
    have hb1 : sumW (Z.take j) ≤ 1048576000 := by omega
    have hb0 := hb.1
    clear hb hl
    by_cases hlt : j < Z.length
    · obtain ⟨b, off, rfl, hz, hc⟩ := HI.out j hlt
      obtain ⟨z, hz'⟩ : ∃ z, z = Z.getD j 0 := ⟨_, rfl⟩
      rw [← hz'] at hc
      have hs := sumW_take Z j hlt
      rw [← hz'] at hs
      have HS := hid hs
      have hwb := wt_bd z
      clear hz' hs
      go_wp2_with (go_at_call 37; refine (bounded_any _ _).mono ?_; rintro e w' ⟨rfl, rfl⟩)
      go_round
      case rel => exact ⟨j + 1, by omega, by go_num, by rw [HS.out]⟩
      case measure => simp [intOf]; omega
    · have e1 : sumW (Z.take j) = sumW Z := by rw [List.take_of_length_le (by omega)]
      rw [e1]
      clear e1 hb0 hb1
      go_wp2_with fail
      refine (drawer_any _ _).mono ?_
      rintro e w0 ⟨rfl, rfl⟩
      go_wp2_with fail
      refine (HD.out _ ?_ ?_ ?_ ?_ ?_).mono ?_
      · simp [go_sem]
      · simp [go_sem]
      · simp [go_sem]
      · simp; omega
      · simp
      rintro e w1 ⟨rfl, hb1⟩
      have hs1 := hb1.size
      rw [World.size_alloc, World.size_alloc, World.size_alloc] at hs1
      have c1 : w1.cell? ⟨w.heap.size + 1, 0, none⟩ = some (.int .u64 0) := by
        rw [hb1.cell (w.heap.size + 1) 0 (by simp) (by omega)]; simp [go_sem]
      have f1 : w1.frozen? ⟨w.heap.size + 1, 0, none⟩ = false := by
        rw [hb1.frozen (w.heap.size + 1) 0 (by simp)]; simp [go_sem]
      have d1 := hb1.at_
      have hz : w.heap.size + 1 < w1.heap.size := by omega
      have hz' : w.heap.size < w1.heap.size := by omega
      have HB := hid (((Joins.below_alloc3 w _ _ _).trans (hb1.below)))
      clear hb1 hs1
      go_wp2_with fail
      refine (placeOf_any ao Z cap x (by omega) _ (HI.out.stays HB.out)).mono ?_
      rintro e w2 ⟨rfl, rfl⟩
      obtain ⟨p, hp⟩ : ∃ p, p = place Z x 0 := ⟨_, rfl⟩
      rw [← hp]
      have HP := hid hp
      clear hp
      go_wp2
      go_region
      go_wp2
      have hcell := show (w1.setCell ⟨w.heap.size + 1, 0, none⟩ (.int .u64 v)).cell? ⟨w.heap.size + 1, 0, none⟩ = some (.int .u64 v) from World.cell?_setCell_same _ _ _ c1
      refine bodyPost_ret (v := .tuple #[.int .i64 p, .agg #[.int .u64 v]]) (by simp [results, Tryd.results25, go_sem, hcell]) rfl (HR.out _ _ (by rw [← HP.out]) ?_)
      exact (HB.out.setCell (p := ⟨w.heap.size + 1, 0, none⟩) (Nat.le_succ _) _).drew

theorem pick_any (s : Int) (ao : Option Addr) (Z : List Int) (cap : Nat) (hZ : Z.length ≤ 1000) (w : World) (hI : Ints w ao Z) :
    Calls Tryd.prog 25 #[.agg #[.int .u64 s], .slice ao Z.length cap] w (PickIs s Z w) := by
  have hsb := sumW_bd Z
  by_cases h0 : sumW Z = 0
  · exact pick_rest s ao Z cap hZ w hI 0 s _ (fun w1 h1 h2 h3 h4 h5 => draw_none s _ (by omega) _ _ w1 h1 h2 h3 h4 h5)
      (fun e W' he hb => Or.inl ⟨h0, by rw [he, place_none h0], hb⟩)
  · obtain ⟨k, hk⟩ := found_ex s (n := sumW Z) (by omega) (by omega)
    refine pick_rest s ao Z cap hZ w hI (numAt s k % sumW Z) (skipTo s k) _ (fun w1 h1 h2 h3 h4 h5 => (draw_any s _ (by omega) (by omega) _ _ w1 h1 h2 h3 h4 h5).mono ?_)
      (fun e W' he hb => Or.inr ⟨by omega, k, hk, he, hb⟩)
    rintro e W' ⟨k', hk', he, hb⟩
    obtain rfl := found_one hk hk'
    exact ⟨he, hb⟩
end Go.Proofs.YtadpgndodbfciaaDoor
