/-
  The walks of Validate, areNodes, validateNodes.
-/
import Derived.Test.YtokpdjdpeaccbaaGFun
namespace Go.Proofs.Ytokpdjdpeaccbaa
open Go.RowKit

/-- What names no node. -/
def badN (n x : Int) : Bool := decide (x < 0) || decide (n ≤ x)
def dearE (e : Ed) : Bool := decide (e.c < 0) || decide (1000000 < e.c)
def offE (n : Int) (e : Ed) : Bool := badN n e.f || badN n e.t
/-- The first error of a graph. -/
def VErr (n : Int) (m : Nat) (E : Nat → Ed) : Int :=
  if 1000 < n ∨ 4000 < m then 4 else if n < 0 ∨ anyP m (fun i => dearE (E i)) = true then 1 else if anyP m (fun i => offE n (E i)) = true then 2 else 0
theorem dear_any (e : Ed) (w : World) : Calls Try.prog 36 #[ev e] w fun r w' => r = .returned (.bool (dearE e)) ∧ Below w.heap.size w w' := by
  unfold dearE
  obtain ⟨f, t, c⟩ := e
  by_cases h : c < 0
  · go_enter Try.func36, Try.ntmps36
    go_wp2
    go_ret
    exact ⟨by simp [h], (Below.refl _ _).alloc (Nat.le_refl _) _⟩
  · have h' : 0 ≤ c := by omega
    go_enter Try.func36, Try.ntmps36
    go_wp2
    go_ret
    exact ⟨by simp; omega, (Below.refl _ _).alloc (Nat.le_refl _) _⟩
theorem node_any (n x : Int) (b : Nat) (w : World) (hc : w.cell? ⟨b, 0, none⟩ = some (.int .i64 n)) : Calls Try.prog 63 #[.int .i64 x, .pointer (some ⟨b, 0, none⟩)] w fun r w' => r = .returned (.bool (badN n x)) ∧ Below w.heap.size w w' := by
  unfold badN
  by_cases h : x < 0
  · go_enter Try.func63, Try.ntmps63
    go_wp2
    go_ret
    exact ⟨by simp [h], Below.refl _ _⟩
  · have h' : 0 ≤ x := by omega
    go_enter Try.func63, Try.ntmps63
    go_wp2
    go_ret
    exact ⟨by simp; omega, Below.refl _ _⟩
set_option maxHeartbeats 1600000 in
theorem areNodes_any (n : Int) (ao : Option Addr) (q c : Nat) (Z : Nat → Int) (hq : q ≤ 1000000) (w : World) (hI : Ints w ao q Z) :
    Calls Try.prog 38 #[.int .i64 n, .slice ao q c] w (AnyPost (!anyP q (fun i => badN n (Z i))) w) := by
  have hba : Below w.heap.size w (w.alloc (.cells #[.int .i64 n] 3)) := (Below.refl _ _).alloc (Nat.le_refl _) _
  have hn := heap_new w (.cells #[.int .i64 n] 3)
  have H := hid (containsI_any 63 #[.pointer (some ⟨w.heap.size, 0, none⟩)] (enters_of Try.func63 (by kernel_rfl) rfl) ao q c Z (fun i => badN n (Z i)) hq (w.alloc (.cells #[.int .i64 n] 3)) (hI.stays hba) (fun i _ W hW => node_any n (Z i) w.heap.size W (cell_of_row _ _ 0 _ _ _ ((hW.block _ (heap_lt hn)).trans hn))))
  obtain ⟨r, hr⟩ : ∃ r, anyP q (fun i => badN n (Z i)) = r := ⟨_, rfl⟩
  rw [hr] at H ⊢
  clear hr hn hI
  go_enter Try.func38, Try.ntmps38
  go_wp2_with (go_at_call 62; refine H.out.mono ?_; rintro e w' ⟨rfl, hb⟩)
  go_ret
  exact ⟨rfl, hba.trans (hb.mono (by simp))⟩
theorem two_vals (x y : Int) (w : World) : Ints (w.alloc (.cells #[.int .i64 x, .int .i64 y] 3)) (some ⟨w.heap.size, 0, none⟩) 2 (fun j => if j = 0 then x else y) := fun j hj => by
  refine ⟨w.heap.size, 0, rfl, by simp, ?_⟩
  have h : j = 0 ∨ j = 1 := by omega
  rcases h with rfl | rfl
  · exact cell_of_row _ _ 0 _ _ _ (heap_new w _)
  · exact cell_of_row _ _ 1 _ _ _ (heap_new w _)
theorem any_two (p : Nat → Bool) : anyP 2 p = (p 0 || p 1) := by simp [anyP, List.range_succ]
set_option maxRecDepth 100000 in
set_option maxHeartbeats 1600000 in
theorem off_any (n : Int) (e : Ed) (b : Nat) (w : World) (hn : w.heap[b]? = some (.cells #[.int .i64 n] 3 (0, 0))) : Calls Try.prog 37 #[ev e, .pointer (some ⟨b, 0, none⟩)] w fun r w' => r = .returned (.bool (offE n e)) ∧ Below w.heap.size w w' := by
  obtain ⟨f, t, c⟩ := e
  have hba : Below w.heap.size w ((w.alloc (.cells #[.int .i64 f, .int .i64 t, .int .i64 c] 41)).alloc (.cells #[.int .i64 f, .int .i64 t] 3)) := Joins.below_alloc2 _ _ _
  have hI := two_vals f t (w.alloc (.cells #[.int .i64 f, .int .i64 t, .int .i64 c] 41))
  rw [World.size_alloc] at hI
  have H := hid (areNodes_any n _ 2 2 _ (by omega) _ hI)
  have hc := cell_of_row w b 0 _ _ _ hn
  have hl := heap_lt hn
  simp only [List.getElem?_toArray, List.getElem?_cons_zero] at hc
  have HV : Hid (anyP 2 (fun i => badN n (if i = 0 then f else t)) = offE n ⟨f, t, c⟩) := hid (by rw [any_two]; simp [offE])
  clear hI hn
  go_enter Try.func37, Try.ntmps37
  go_wp2_with (go_at_call 38; refine H.out.mono ?_; rintro e w' ⟨rfl, hb⟩)
  go_ret
  exact ⟨ret_bool (a := anyP 2 (fun i => badN n (if i = 0 then f else t))) HV.out, hba.trans (hb.mono (by simp; omega))⟩
set_option maxRecDepth 100000 in
set_option maxHeartbeats 3200000 in
theorem validate_any (n : Int) (eo : Option Addr) (m ec : Nat) (E : Nat → Ed) (hm : m ≤ 1000000) (w : World) (hE : Eds w eo m E) :
    Calls Try.prog 18 #[.int .i64 n, .slice eo m ec] w fun e w' => e = .returned (.int .i64 (VErr n m E)) ∧ Below w.heap.size w w' := by
  have hba : Below w.heap.size w (w.alloc (.cells #[.int .i64 n] 3)) := (Below.refl _ _).alloc (Nat.le_refl _) _
  have hn := heap_new w (.cells #[.int .i64 n] 3)
  have H1 := hid (fun (W : World) (hW : Below (w.alloc (.cells #[.int .i64 n] 3)).heap.size (w.alloc (.cells #[.int .i64 n] 3)) W) => containsE_any 36 #[] (enters_of Try.func36 (by kernel_rfl) rfl) eo m ec E (fun i => dearE (E i)) hm W ((hE.stays hba).stays hW) (fun i _ W _ => dear_any (E i) W))
  have H2 := hid (fun (W : World) (hW : Below (w.alloc (.cells #[.int .i64 n] 3)).heap.size (w.alloc (.cells #[.int .i64 n] 3)) W) => containsE_any 37 #[.pointer (some ⟨w.heap.size, 0, none⟩)] (enters_of Try.func37 (by kernel_rfl) rfl) eo m ec E (fun i => offE n (E i)) hm W ((hE.stays hba).stays hW) (fun i _ W2 hW2 => off_any n (E i) w.heap.size W2 ((hW2.block _ (by have := hW.size; have := heap_lt hn; omega)).trans ((hW.block _ (heap_lt hn)).trans hn))))
  have hc := cell_of_row _ w.heap.size 0 _ _ _ hn
  simp only [List.getElem?_toArray, List.getElem?_cons_zero] at hc
  have hl : w.heap.size < (w.alloc (.cells #[.int .i64 n] 3)).heap.size := by simp
  have HBA := hid hba
  obtain ⟨r1, hr1⟩ : ∃ r, anyP m (fun i => dearE (E i)) = r := ⟨_, rfl⟩
  obtain ⟨r2, hr2⟩ : ∃ r, anyP m (fun i => offE n (E i)) = r := ⟨_, rfl⟩
  have hfin : ∀ w', Below (w.alloc (.cells #[.int .i64 n] 3)).heap.size (w.alloc (.cells #[.int .i64 n] 3)) w' → Below w.heap.size w w' := fun w' h => hba.trans (h.mono (by simp))
  have HFIN := hid hfin
  unfold VErr
  rw [hr1, hr2]
  rw [hr1] at H1
  rw [hr2] at H2
  clear hr1 hr2 hE hn hba hfin
  go_enter Try.func18, Try.ntmps18
  by_cases h1 : 1000 < n
  · rw [if_pos (.inl h1)]
    go_wp2
    go_ret
    exact ⟨rfl, HBA.out⟩
  · have h1' : n ≤ 1000 := by omega
    by_cases h2 : 4000 < m
    · rw [if_pos (.inr h2)]
      go_wp2
      go_ret
      exact ⟨rfl, HBA.out⟩
    · rw [if_neg (by omega)]
      have h2' : m ≤ 4000 := by omega
      by_cases h3 : n < 0
      · rw [if_pos (.inl h3)]
        go_wp2
        go_ret
        exact ⟨rfl, HBA.out⟩
      · have h3' : 0 ≤ n := by omega
        cases r1
        · cases r2
          · rw [if_neg (by simp; omega), if_neg (by simp)]
            go_wp2_with fail
            refine (H1.out (w.alloc (.cells #[.int .i64 n] 3)) (Below.refl _ _)).mono ?_
            rintro e w2 ⟨rfl, hb2⟩
            have HB2 := hid hb2
            clear hb2
            go_wp2_with fail
            refine (H2.out w2 HB2.out).mono ?_
            rintro e w3 ⟨rfl, hb3⟩
            have HB3 := hid (HFIN.out _ (HB2.out.trans (hb3.mono HB2.out.size)))
            clear hb3
            go_wp2_with fail
            go_ret
            exact ⟨rfl, HB3.out⟩
          · rw [if_neg (by simp; omega), if_pos rfl]
            go_wp2_with fail
            refine (H1.out (w.alloc (.cells #[.int .i64 n] 3)) (Below.refl _ _)).mono ?_
            rintro e w2 ⟨rfl, hb2⟩
            have HB2 := hid hb2
            clear hb2
            go_wp2_with fail
            refine (H2.out w2 HB2.out).mono ?_
            rintro e w3 ⟨rfl, hb3⟩
            have HB3 := hid (HFIN.out _ (HB2.out.trans (hb3.mono HB2.out.size)))
            clear hb3
            go_wp2_with fail
            go_ret
            exact ⟨rfl, HB3.out⟩
        · rw [if_pos (.inr rfl)]
          go_wp2_with fail
          refine (H1.out (w.alloc (.cells #[.int .i64 n] 3)) (Below.refl _ _)).mono ?_
          rintro e w2 ⟨rfl, hb2⟩
          have HB2 := hid (HFIN.out _ hb2)
          clear hb2
          go_wp2_with fail
          go_ret
          exact ⟨rfl, HB2.out⟩
/-- The first error of a graph and of some of its nodes. -/
def NErr (n : Int) (m : Nat) (E : Nat → Ed) (q : Nat) (Z : Nat → Int) : Int := if VErr n m E ≠ 0 then VErr n m E else if anyP q (fun i => badN n (Z i)) = true then 2 else 0
set_option maxHeartbeats 3200000 in
theorem nodes_any (n : Int) (eo : Option Addr) (m ec : Nat) (E : Nat → Ed) (hm : m ≤ 1000000) (ao : Option Addr) (q c : Nat) (Z : Nat → Int) (hq : q ≤ 1000000) (w : World) (hE : Eds w eo m E) (hI : Ints w ao q Z) :
    Calls Try.prog 41 #[.int .i64 n, .slice eo m ec, .slice ao q c] w fun e w' => e = .returned (.int .i64 (NErr n m E q Z)) ∧ Below w.heap.size w w' := by
  have H1 := hid (validate_any n eo m ec E hm w hE)
  have HI := hid hI
  unfold NErr
  obtain ⟨v, hv⟩ : ∃ v, VErr n m E = v := ⟨_, rfl⟩
  obtain ⟨r, hr⟩ : ∃ r, anyP q (fun i => badN n (Z i)) = r := ⟨_, rfl⟩
  have HR := hid hr
  rw [hr]
  rw [hv] at H1 ⊢
  clear hv hr hE hI
  by_cases h0 : v = 0
  · subst h0
    rw [if_neg (by simp)]
    cases r
    · rw [if_neg (by simp)]
      go_enter Try.func41, Try.ntmps41
      go_wp2_with fail
      refine H1.out.mono ?_
      rintro e w2 ⟨rfl, hb2⟩
      have HB2 := hid hb2
      clear hb2 H1
      go_wp2_with fail
      refine (areNodes_any n ao q c Z hq w2 (HI.out.stays HB2.out)).mono ?_
      rw [HR.out]
      rintro e w3 ⟨rfl, hb3⟩
      have HB3 := hid (step HB2.out hb3)
      clear hb3
      go_wp2_with fail
      go_ret
      exact ⟨rfl, HB3.out⟩
    · rw [if_pos rfl]
      go_enter Try.func41, Try.ntmps41
      go_wp2_with fail
      refine H1.out.mono ?_
      rintro e w2 ⟨rfl, hb2⟩
      have HB2 := hid hb2
      clear hb2 H1
      go_wp2_with fail
      refine (areNodes_any n ao q c Z hq w2 (HI.out.stays HB2.out)).mono ?_
      rw [HR.out]
      rintro e w3 ⟨rfl, hb3⟩
      have HB3 := hid (step HB2.out hb3)
      clear hb3
      go_wp2_with fail
      go_ret
      exact ⟨rfl, HB3.out⟩
  · rw [if_pos h0]
    have hb0 : (v == 0) = false := by simpa using h0
    go_enter Try.func41, Try.ntmps41
    go_wp2_with fail
    refine H1.out.mono ?_
    rintro e w2 ⟨rfl, hb2⟩
    have HB2 := hid hb2
    clear hb2 H1
    go_wp2_with fail
    go_ret
    exact ⟨rfl, HB2.out⟩
end Go.Proofs.Ytokpdjdpeaccbaa
