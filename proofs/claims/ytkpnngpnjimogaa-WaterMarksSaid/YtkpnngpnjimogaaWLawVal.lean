/-
  The walk of the law on Validate; of large.
-/
import Derived.Test.YtkpnngpnjimogaaWJnd
import Derived.Test.YtkpnngpnjimogaaWRVal
namespace Go.Proofs.Ytkpnngpnjimogaa
open Go.RowKit

set_option maxHeartbeats 1600000 in
theorem large_yes (W H : Int) (ao ko bo : Option Addr) (n cap m kcap q bcap : Nat) (hn : n ≤ 9223372036854775807) (hm : m ≤ 9223372036854775807) (hq : q ≤ 9223372036854775807) (h : 4000 < n ∨ 4000 < m ∨ 4000 < q) (w : World) :
    Calls Try.prog 14 #[lv W H (.slice ao n cap), .agg #[.slice ko m kcap, .slice bo q bcap]] w fun r w' => r = .returned (.bool true) ∧ Below w.heap.size w w' := by
  have HW := hid (Joins.below_alloc2 w (.cells #[.int .i64 W, .int .i64 H, .slice ao n cap] 24) (.cells #[.slice ko m kcap, .slice bo q bcap] 26))
  by_cases h1 : 4000 < n
  · clear h
    go_enter Try.func14, Try.ntmps14
    go_wp2_with fail
    go_ret
    exact ⟨rfl, HW.out⟩
  · have h' := h.resolve_left h1
    clear h
    by_cases h2 : 4000 < m
    · clear h'
      go_enter Try.func14, Try.ntmps14
      go_wp2_with fail
      go_ret
      exact ⟨rfl, HW.out⟩
    · have h3 := h'.resolve_left h2
      clear h'
      go_enter Try.func14, Try.ntmps14
      go_wp2_with fail
      go_ret
      exact ⟨ret_bool (by simp <;> omega), HW.out⟩
set_option maxHeartbeats 1600000 in
theorem large_no (W H : Int) (ao ko bo : Option Addr) (n cap m kcap q bcap : Nat) (h : n ≤ 4000 ∧ m ≤ 4000 ∧ q ≤ 4000) (w : World) :
    Calls Try.prog 14 #[lv W H (.slice ao n cap), .agg #[.slice ko m kcap, .slice bo q bcap]] w fun r w' => r = .returned (.bool false) ∧ Below w.heap.size w w' := by
  have HW := hid (Joins.below_alloc2 w (.cells #[.int .i64 W, .int .i64 H, .slice ao n cap] 24) (.cells #[.slice ko m kcap, .slice bo q bcap] 26))
  obtain ⟨h1, h2, h3⟩ := h
  go_enter Try.func14, Try.ntmps14
  go_wp2_with fail
  go_ret
  exact ⟨ret_bool (by simp <;> omega), HW.out⟩
section
variable {W H : Int} {ao ko bo : Option Addr} {n cap m kcap q bcap : Nat} {Z K Y : Nat → Int} {w wr w' : World}
theorem lw_keep {A : Nat} {C : Prop} (hA : A = w.heap.size) (h : LW W H ao ko bo n cap m kcap q bcap Z K Y w wr ∧ C) (k : Below wr.heap.size wr w') :
    LW W H ao ko bo n cap m kcap q bcap Z K Y w w' ∧ w'.cell? ⟨A, 0, none⟩ = some (.int .i64 W) ∧ w'.cell? ⟨A, 1, none⟩ = some (.int .i64 H) ∧ w'.cell? ⟨A, 2, none⟩ = some (.slice ao n cap) ∧ w'.cell? ⟨A + 1, 0, none⟩ = some (.slice ko m kcap) ∧ w'.cell? ⟨A + 1, 1, none⟩ = some (.slice bo q bcap) := by
  subst hA
  have h' := h.1.stays k
  exact ⟨h', h'.c0, h'.c1, h'.c2, h'.c3, h'.c4⟩
theorem lw_l {C : Prop} (h : LW W H ao ko bo n cap m kcap q bcap Z K Y w wr ∧ C) : Ints wr ao n Z := h.1.land
theorem lw_k {C : Prop} (h : LW W H ao ko bo n cap m kcap q bcap Z K Y w wr ∧ C) : Ints wr ko m K := h.1.kinds
theorem lw_b {C : Prop} (h : LW W H ao ko bo n cap m kcap q bcap Z K Y w wr ∧ C) : Ints wr bo q Y := h.1.buoys
theorem lw_below {C : Prop} (h : LW W H ao ko bo n cap m kcap q bcap Z K Y w wr ∧ C) : Below w.heap.size w wr := h.1.below
end

set_option maxRecDepth 20000 in
set_option maxHeartbeats 6400000 in
theorem walk_validates (Wd Hd : Int) (ao : Option Addr) (n cap : Nat) (Z : Nat → Int) (hn : n ≤ 9223372036854775807) (ko : Option Addr) (m kcap : Nat) (K : Nat → Int) (hm : m ≤ 9223372036854775807) (bo : Option Addr) (q bcap : Nat) (Y : Nat → Int) (hq : q ≤ 9223372036854775807) (w : World) (hI : Ints w ao n Z) (hK : Ints w ko m K) (hY : Ints w bo q Y) :
    Calls Try.prog 3 #[lv Wd Hd (.slice ao n cap), .agg #[.slice ko m kcap, .slice bo q bcap]] w fun e w' => e = .returned (.bool true) ∧ Below w.heap.size w w' := by
  have HL := hid (LW.start (W := Wd) (H := Hd) (cap := cap) (kcap := kcap) (bcap := bcap) hI hK hY)
  obtain ⟨A, hA⟩ : ∃ A, A = w.heap.size := ⟨_, rfl⟩
  have HA := hid hA
  clear hI hK hY
  by_cases hl : n ≤ 4000 ∧ m ≤ 4000 ∧ q ≤ 4000
  · obtain ⟨e, he⟩ := WErr.ex Wd Hd n m q Z K Y
    have HE := hid he
    have HLN := hid hl
    obtain ⟨l1, l2, l3⟩ := hl
    clear he l2
    go_enter Try.func3, Try.ntmps3
    go_upto_region 1 with fail
    generalize World.alloc _ _ = w1 at HL ⊢
    simp only [← hA] at HL ⊢
    have c0 := HL.out.c0
    have c1 := HL.out.c1
    have c2 := HL.out.c2
    have c3 := HL.out.c3
    have c4 := HL.out.c4
    have hz := HL.out.size
    simp only [← HA.out] at c0 c1 c2 c3 c4 hz
    clear hA
    go_upto_region 3 with (go_at_call 14; (refine (large_no Wd Hd ao ko bo n cap m kcap q bcap HLN.out _).mono ?_); rintro r wn ⟨rfl, hb⟩; have HLn := hid (HL.out.stays hb); clear hb c0 c1 c2 c3 c4 hz HL; have HL := HLn; clear HLn; have c0 := HL.out.c0; have c1 := HL.out.c1; have c2 := HL.out.c2; have c3 := HL.out.c3; have c4 := HL.out.c4; have hz := HL.out.size; simp only [← HA.out] at c0 c1 c2 c3 c4 hz)
    go_wp2_with fail
    go_region_held3 (fun w' => LW Wd Hd ao ko bo n cap m kcap q bcap Z K Y w w' ∧ w'.cell? ⟨A, 0, none⟩ = some (.int .i64 Wd) ∧ w'.cell? ⟨A, 1, none⟩ = some (.int .i64 Hd) ∧ w'.cell? ⟨A, 2, none⟩ = some (.slice ao n cap) ∧ w'.cell? ⟨A + 1, 0, none⟩ = some (.slice ko m kcap) ∧ w'.cell? ⟨A + 1, 1, none⟩ = some (.slice bo q bcap))
      (first
        | exact lw_keep HA.out (And.intro HL.out trivial) ((Below.refl _ _).drew)
        | exact lw_keep HA.out (by assumption) hb
        | assumption)
      (first
        | (go_at_call 16; (refine (wvalidate_to Wd Hd ao ko bo n cap m kcap q bcap Z K Y l1 l3 e HE.out _ (lw_l (by assumption)) (lw_k (by assumption)) (lw_b (by assumption))).mono ?_); rintro r wx ⟨rfl, hb⟩)
        | (go_at_call 17; (refine (wrefvalidate_to Wd Hd ao ko bo n cap m kcap q bcap Z K Y l1 l3 e HE.out _ (lw_l (by assumption)) (lw_k (by assumption)) (lw_b (by assumption))).mono ?_); rintro r wx ⟨rfl, hb⟩)
        | (go_at_call 15; (refine (known_any _).mono ?_); rintro r wx ⟨rfl, hb⟩))
    all_goals go_wp2_with fail
    all_goals go_ret
    all_goals exact ⟨rfl, lw_below (by assumption)⟩
  · have HN : Hid (4000 < n ∨ 4000 < m ∨ 4000 < q) := hid (by omega)
    clear hl
    go_enter Try.func3, Try.ntmps3
    go_upto_region 1 with fail
    generalize World.alloc _ _ = w1 at HL ⊢
    simp only [← hA] at HL ⊢
    have c0 := HL.out.c0
    have c1 := HL.out.c1
    have c2 := HL.out.c2
    have c3 := HL.out.c3
    have c4 := HL.out.c4
    have hz := HL.out.size
    simp only [← HA.out] at c0 c1 c2 c3 c4 hz
    clear hA
    go_wp2_with (first
      | (go_at_call 14; (refine (large_yes Wd Hd ao ko bo n cap m kcap q bcap hn hm hq HN.out _).mono ?_); rintro r wn ⟨rfl, hb⟩; have HLn := hid (HL.out.stays hb); clear hb c0 c1 c2 c3 c4 hz HL; have HL := HLn; clear HLn; have c0 := HL.out.c0; have c1 := HL.out.c1; have c2 := HL.out.c2; have c3 := HL.out.c3; have c4 := HL.out.c4; have hz := HL.out.size; simp only [← HA.out] at c0 c1 c2 c3 c4 hz)
      | (go_at_call 15; (refine (known_any _).mono ?_); rintro r wn ⟨rfl, hb⟩; have HLn := hid (HL.out.stays hb); clear hb c0 c1 c2 c3 c4 hz HL; have HL := HLn; clear HLn; have c0 := HL.out.c0; have c1 := HL.out.c1; have c2 := HL.out.c2; have c3 := HL.out.c3; have c4 := HL.out.c4; have hz := HL.out.size; simp only [← HA.out] at c0 c1 c2 c3 c4 hz))
    go_ret
    exact ⟨rfl, HL.out.below⟩
end Go.Proofs.Ytkpnngpnjimogaa
