/-
  The walks of what looks at lists of a kind or of a plant: areCargoes, made, areCounts, the reference's counts.
-/
import Derived.Test.YtnhkblkijiipeaaFNam
import Derived.Test.YtnhkblkijiipeaaFFun
namespace Go.Proofs.Ytnhkblkijiipeaa
open Go.RowKit

theorem okL_no {n i : Nat} {Z : Nat → Int} (hi : i < n) (h : badC Z i = true) : okL n Z = false := by
  unfold okL; rw [anyP_yes hi h]; rfl
theorem okL_end {n : Nat} {Z : Nat → Int} (h : ∀ j, j < n → badC Z j = false) : okL n Z = decide (n ≤ 4) := by
  unfold okL; rw [anyP_no h]; rfl
theorem badC_0 {Z : Nat → Int} {i : Nat} {x : Int} (hx : Z i = x) (h : inB 0 x 15 = false) : badC Z i = true := by unfold badC; rw [hx, h]; rfl
theorem badC_1 {Z : Nat → Int} {i j : Nat} {x y : Int} (hx : Z i = x) (hj : j + 1 = i) (hy : Z j = y) (h : x ≤ y) : badC Z i = true := by
  subst hj; unfold badC; rw [hx, Nat.add_sub_cancel, hy, decide_eq_true h, decide_eq_true (by omega)]; simp
theorem badC_2 {Z : Nat → Int} {i j : Nat} {x y : Int} (hx : Z i = x) (h : inB 0 x 15 = true) (hj : j + 1 = i) (hy : Z j = y) (hxy : ¬ x ≤ y) : badC Z i = false := by
  subst hj; unfold badC; rw [hx, h, Nat.add_sub_cancel, hy, decide_eq_false hxy]; simp
theorem badC_3 {Z : Nat → Int} {i : Nat} {x : Int} (hx : Z i = x) (h : inB 0 x 15 = true) (h0 : ¬ 0 < i) : badC Z i = false := by
  unfold badC; rw [hx, h, decide_eq_false h0]; rfl
set_option maxRecDepth 20000 in
set_option maxHeartbeats 3200000 in
theorem arecargoes_any (ao : Option Addr) (n c : Nat) (Z : Nat → Int) (hn : n ≤ 1000) (q : Bool) (hq : okL n Z = q) (w : World) (h : Ints w ao n Z) :
    Calls Try.prog 67 #[.slice ao n c] w fun e w' => e = .returned (.bool q) ∧ w = w' := by
  have H := hid h
  have HR := hid hq
  clear h hq
  go_enter Try.func67, Try.ntmps67
  go_wp2_with fail
  go_loop [7] (fun iv => ∃ i : Nat, i ≤ n ∧ iv = .int .i64 i ∧ Hid (∀ j, j < i → badC Z j = false)) (fun iv => n - (intOf iv).toNat)
  case atStart => exact ⟨0, Nat.zero_le _, rfl, hid (fun j hj => absurd hj (Nat.not_lt_zero _))⟩
  case round =>
    obtain ⟨i, hi, rfl, HI⟩ := hrel
    by_cases hlt : i < n
    · obtain ⟨b, off, e, _, a0⟩ := iat H.out hlt
      subst e
      obtain ⟨x, hx⟩ : ∃ x, Z i = x := ⟨_, rfl⟩
      rw [hx] at a0
      have HX := hid hx
      clear hx
      cases q0 : inB 0 x 15
      · have HB := hid q0
        have HQ : Hid (q = false) := hid (by rw [← HR.out]; exact okL_no hlt (badC_0 HX.out q0))
        clear q0
        go_wp2_with (go_at_call 56; refine (iscargo_any x false HB.out _).mono ?_; rintro e w' ⟨rfl, rfl⟩)
        go_ret
        exact ⟨by rw [HQ.out]; rfl, rfl⟩
      · have HB := hid q0
        clear q0
        by_cases h0 : 0 < i
        · obtain ⟨j, hj⟩ : ∃ j, j + 1 = i := ⟨i - 1, by omega⟩
          have HJ := hid hj
          have e1 : (i : Int) - 1 = (j : Int) := by omega
          have e2 : IntKind.i64.wrap (j : Int) = (j : Int) := by rw [IntKind.wrap_i64]; omega
          have e3 : (j : Int) < (n : Int) := by omega
          have e4 : (0 : Int) < (i : Int) := by omega
          obtain ⟨b', off', e', _, d0⟩ := iat H.out (j := j) (by omega)
          cases e'
          obtain ⟨y, hy⟩ : ∃ y, Z j = y := ⟨_, rfl⟩
          rw [hy] at d0
          have HY := hid hy
          clear hy hj
          by_cases hxy : x ≤ y
          · have HQ : Hid (q = false) := hid (by rw [← HR.out]; exact okL_no hlt (badC_1 HX.out HJ.out HY.out hxy))
            go_wp2_with (go_at_call 56; refine (iscargo_any x true HB.out _).mono ?_; rintro e w' ⟨rfl, rfl⟩)
            go_ret
            exact ⟨by rw [HQ.out]; rfl, rfl⟩
          · have HN := hid (snoc_no HI.out (badC_2 HX.out HB.out HJ.out HY.out hxy))
            go_wp2_with (go_at_call 56; refine (iscargo_any x true HB.out _).mono ?_; rintro e w' ⟨rfl, rfl⟩)
            go_round
            case rel => exact ⟨i + 1, by omega, by go_num, HN⟩
            case measure => simp [intOf]; omega
        · have e4 : ¬ (0 : Int) < (i : Int) := by omega
          have HN := hid (snoc_no HI.out (badC_3 HX.out HB.out h0))
          clear h0
          go_wp2_with (go_at_call 56; refine (iscargo_any x true HB.out _).mono ?_; rintro e w' ⟨rfl, rfl⟩)
          go_round
          case rel => exact ⟨i + 1, by omega, by go_num, HN⟩
          case measure => simp [intOf]; omega
    · obtain rfl : n = i := by omega
      have HQ : Hid (decide ((n : Int) ≤ 4) = q) := hid (by rw [← HR.out, okL_end HI.out]; exact decide_eq_decide.2 (by omega))
      go_wp2_with fail
      go_ret
      exact ⟨ret_bool (a := decide ((n : Int) ≤ 4)) HQ.out, rfl⟩
theorem okN_len {l : Li} {n : Nat} {b : Int} (h : ¬ l.n = n) : okN l n b = false := by unfold okN; rw [decide_eq_false h]; rfl
theorem okN_z {l : Li} {n : Nat} {b : Int} (h : l.n = n) : okN l n b = !anyP l.n (fun j => !inB 0 (l.Z j) b) := by unfold okN; rw [decide_eq_true h]; rfl
set_option maxRecDepth 100000 in
set_option maxHeartbeats 3200000 in
theorem rcounts_any (l : Li) (n : Nat) (b : Int) (hl : l.n ≤ 1000) (hn : n ≤ 1000) (q : Bool) (hq : okN l n b = q) (w : World) (h : LiAt w l) :
    Calls Try.prog 38 #[lv l, .int .i64 n, .int .i64 b] w fun e w' => e = .returned (.bool q) ∧ w = w' := by
  obtain ⟨ao, m, c, Z⟩ := l
  dsimp only at hl
  show Calls _ _ #[.slice ao m c, .int .i64 n, .int .i64 b] w _
  have H : Hid (Ints w ao m Z) := hid h
  have HR := hid hq
  clear h hq
  by_cases e : m = n
  · have HV : Hid ((!anyP m (fun j => !inB 0 (Z j) b)) = q) := hid (by rw [← HR.out, okN_z e])
    subst e
    clear HR
    go_enter Try.func38, Try.ntmps38
    go_wp2_with fail
    go_loop [15] (fun iv => ∃ i : Nat, i ≤ m ∧ iv = .int .i64 i ∧ Hid (∀ j, j < i → (!inB 0 (Z j) b) = false)) (fun iv => m - (intOf iv).toNat)
    case atStart => exact ⟨0, Nat.zero_le _, rfl, hid (fun j hj => absurd hj (Nat.not_lt_zero _))⟩
    case round =>
      obtain ⟨i, hi, rfl, HI⟩ := hrel
      by_cases hlt : i < m
      · obtain ⟨g, off, e, _, a0⟩ := iat H.out hlt
        subst e
        obtain ⟨x, hx⟩ : ∃ x, Z i = x := ⟨_, rfl⟩
        rw [hx] at a0
        have HX := hid hx
        clear hx
        cases q0 : inB 0 x b
        · have HB := hid q0
          have HQ : Hid (q = false) := hid (by rw [← HV.out, anyP_yes hlt (by rw [HX.out, q0]; rfl)]; rfl)
          clear q0
          go_wp2_with (go_at_call 37; refine (rwithin_any 0 x b false HB.out _).mono ?_; rintro e w' ⟨rfl, rfl⟩)
          go_ret
          exact ⟨by rw [HQ.out]; rfl, rfl⟩
        · have HB := hid q0
          have HN := hid (snoc_no HI.out (show (!inB 0 (Z i) b) = false by rw [HX.out, q0]; rfl))
          clear q0
          go_wp2_with (go_at_call 37; refine (rwithin_any 0 x b true HB.out _).mono ?_; rintro e w' ⟨rfl, rfl⟩)
          go_round
          case rel => exact ⟨i + 1, by omega, by go_num, HN⟩
          case measure => simp [intOf]; omega
      · obtain rfl : m = i := by omega
        have HQ : Hid (q = true) := hid (by rw [← HV.out, anyP_no HI.out]; rfl)
        go_wp2_with fail
        go_ret
        exact ⟨by rw [HQ.out]; rfl, rfl⟩
  · have HQ : Hid (q = false) := hid (by rw [← HR.out]; exact okN_len e)
    have he : ¬ (m : Int) = (n : Int) := by omega
    have he2 : ((m : Int) == (n : Int)) = false := by simpa using he
    go_enter Try.func38, Try.ntmps38
    go_wp2_with fail
    go_ret
    exact ⟨by rw [HQ.out]; rfl, rfl⟩
theorem acount_any (X : Nat) (b x : Int) (q : Bool) (hq : inB 0 x b = q) (w : World) (h : w.cell? ⟨X, 0, none⟩ = some (.int .i64 b)) :
    Calls Try.prog 70 #[.int .i64 x, .pointer (some ⟨X, 0, none⟩)] w fun e w' => e = .returned (.bool (!q)) ∧ w = w' := by
  have HH := hid hq
  clear hq
  go_enter Try.func70, Try.ntmps70
  go_wp2_with (go_at_call 34; refine (within_any 0 x b q HH.out _).mono ?_; rintro e w' ⟨rfl, rfl⟩)
  go_ret
  exact ⟨by cases q <;> rfl, rfl⟩
set_option maxRecDepth 100000 in
set_option maxHeartbeats 3200000 in
theorem arecounts_any (l : Li) (n : Nat) (b : Int) (hl : l.n ≤ 1000) (hn : n ≤ 1000) (q : Bool) (hq : okN l n b = q) (w : World) (h : LiAt w l) :
    Calls Try.prog 60 #[lv l, .int .i64 n, .int .i64 b] w fun e w' => e = .returned (.bool q) ∧ Below w.heap.size w w' := by
  obtain ⟨ao, m, c, Z⟩ := l
  dsimp only at hl
  show Calls _ _ #[.slice ao m c, .int .i64 n, .int .i64 b] w _
  have HR := hid hq
  clear hq
  have hmf : ∀ (fn : Fn) (first cap : Array Value) (w : World), (Instr.makeFunc fn first cap).run Try.prog w = .ok (.func fn first cap) w := fun _ _ _ _ => rfl
  by_cases e : m = n
  · have HV : Hid ((!anyP m (fun j => !inB 0 (Z j) b)) = q) := hid (by rw [← HR.out, okN_z e])
    have HB1 := hid (Joins.below_alloc1 w (.cells #[.int .i64 b] 3))
    have hbx : (w.alloc (.cells #[.int .i64 b] 3)).cell? ⟨w.heap.size, 0, none⟩ = some (.int .i64 b) := cell_of_row _ _ 0 _ _ _ (heap_new w _)
    have HC := hid (containsI_any 70 #[.pointer (some ⟨w.heap.size, 0, none⟩)] (enters_of Try.func70 (by kernel_rfl) rfl) ao m c Z (fun j => !inB 0 (Z j) b) (by omega) (w.alloc (.cells #[.int .i64 b] 3)) (h.stays HB1.out)
      (fun i hi W hW => (acount_any w.heap.size b (Z i) _ rfl W ((hW.cell (p := ⟨w.heap.size, 0, none⟩) (by rw [World.size_alloc]; simp)).trans hbx)).mono fun e w' ⟨he, hw⟩ => ⟨he, hw ▸ Below.refl _ _⟩))
    obtain ⟨t, ht⟩ : ∃ t, anyP m (fun j => !inB 0 (Z j) b) = t := ⟨_, rfl⟩
    rw [ht] at HC HV
    subst e
    clear h hbx ht HR
    go_enter Try.func60, Try.ntmps60
    go_wp2_with (go_at_call 71; refine HC.out.mono ?_; rintro e w' ⟨rfl, hb⟩)
    go_ret
    exact ⟨ret_bool (a := !t) HV.out, HB1.out.trans (hb.mono (by rw [World.size_alloc]; omega))⟩
  · have HQ : Hid (q = false) := hid (by rw [← HR.out]; exact okN_len e)
    have he : ¬ (m : Int) = (n : Int) := by omega
    have he2 : ((m : Int) == (n : Int)) = false := by simpa using he
    have HB1 := hid (Joins.below_alloc1 w (.cells #[.int .i64 b] 3))
    clear h
    go_enter Try.func60, Try.ntmps60
    go_wp2_with fail
    go_ret
    exact ⟨by rw [HQ.out]; rfl, HB1.out⟩
end Go.Proofs.Ytnhkblkijiipeaa
