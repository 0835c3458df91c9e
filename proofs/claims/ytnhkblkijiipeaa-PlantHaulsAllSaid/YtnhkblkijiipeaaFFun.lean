/-
  The walks of IndexFunc and ContainsFunc of kinds, of makes and of numbers.
-/
import Derived.Test.YtnhkblkijiipeaaFPar
namespace Go.Proofs.Ytnhkblkijiipeaa
open Go.RowKit

/-- The first place where p holds. -/
def Fst (m : Nat) (p : Nat → Bool) (r : Int) : Prop := (∃ i : Nat, i < m ∧ p i = true ∧ r = i) ∨ ((∀ j, j < m → p j = false) ∧ r = -1)
def FstPost (m : Nat) (p : Nat → Bool) (w : World) (e : Ending) (w' : World) : Prop := ∃ r, Fst m p r ∧ e = .returned (.int .i64 r) ∧ Below w.heap.size w w'
/-- What is asked of a predicate. -/
def Pred (g : Nat) (lb : Array Value) (V : Nat → Value) (m : Nat) (p : Nat → Bool) (w : World) : Prop := ∀ i, i < m → ∀ W, Below w.heap.size w W → Calls Try.prog g (#[V i] ++ lb) W fun e w' => e = .returned (.bool (p i)) ∧ Below W.heap.size W w'
theorem Fst.any {m : Nat} {p : Nat → Bool} {r : Int} (h : Fst m p r) : decide (0 ≤ r) = anyP m p := by
  rcases h with ⟨i, hi, hp, rfl⟩ | ⟨h, rfl⟩
  · rw [anyP_iff.2 ⟨i, hi, hp⟩]; simp
  · have : anyP m p = false := by
      cases h' : anyP m p
      · rfl
      · obtain ⟨i, hi, hp⟩ := anyP_iff.1 h'
        rw [h i hi] at hp; cases hp
    rw [this]; rfl
def AnyPost (b : Bool) (w : World) (e : Ending) (w' : World) : Prop := e = .returned (.bool b) ∧ Below w.heap.size w w'
set_option maxHeartbeats 3200000 in
theorem indexK_any (g : Nat) (lb : Array Value) (eg : ∀ args w, (callFunc g args).run Try.prog w = .ok (.enter g args) w) (eo : Option Addr) (m c : Nat) (E : Nat → Kd) (p : Nat → Bool) (hm : m ≤ 1000000) (w : World) (hE : Kds w eo m E) (hp : Pred g lb (fun i => kv (E i)) m p w) :
    Calls Try.prog 69 #[.slice eo m c, .func (.func g) #[] lb] w (FstPost m p w) := by
  have HE := hid hE
  have HP := hid hp
  clear hE hp
  go_enter Try.func69, Try.ntmps69
  go_wp2
  go_loopw [5, 8] (fun _ iv wr => ∃ k : Nat, k ≤ m ∧ iv = .int .i64 k ∧ Hid (Below w.heap.size w wr) ∧ Hid (∀ j, j < k → p j = false)) (fun _ iv _ => m - (intOf iv).toNat)
  case atStart => exact ⟨0, Nat.zero_le _, rfl, Below.refl _ _, fun j hj => absurd hj (Nat.not_lt_zero _)⟩
  case round =>
    obtain ⟨k, hk, rfl, HB, HF⟩ := hrel
    by_cases hlt : k < m
    · obtain ⟨⟨b, off, e, _, a0, a1, a2⟩, _⟩ := (HE.out.stays HB.out) k hlt
      subst e
      have hcall := HP.out k hlt wr HB.out
      cases hq : p k with
      | true =>
        rw [hq] at hcall
        have HC := hid hcall
        have HQ := hid hq
        clear hcall hq
        go_wp2_with fail
        refine HC.out.mono ?_
        rintro e w' ⟨rfl, hb'⟩
        go_wp2_with fail
        go_ret
        exact ⟨_, .inl ⟨k, hlt, HQ.out, rfl⟩, rfl, HB.out.trans (hb'.mono HB.out.size)⟩
      | false =>
        rw [hq] at hcall
        have HC := hid hcall
        have HQ := hid hq
        clear hcall hq
        go_wp2_with fail
        refine HC.out.mono ?_
        rintro e w' ⟨rfl, hb'⟩
        go_wp2_with fail
        have HB2 := hid (HB.out.trans (hb'.mono HB.out.size))
        clear hb'
        go_roundw
        case rel => exact ⟨k + 1, by omega, by go_num, HB2, hid (fun j hj => by
          by_cases e : j = k
          · subst e; exact HQ.out
          · exact HF.out j (by omega))⟩
        case measure => simp [intOf]; omega
    · obtain rfl : m = k := by omega
      go_wp2
      go_ret
      exact ⟨_, .inr ⟨HF.out, rfl⟩, rfl, HB.out⟩
set_option maxHeartbeats 1600000 in
theorem containsK_any (g : Nat) (lb : Array Value) (eg : ∀ args w, (callFunc g args).run Try.prog w = .ok (.enter g args) w) (eo : Option Addr) (m c : Nat) (E : Nat → Kd) (p : Nat → Bool) (hm : m ≤ 1000000) (w : World) (hE : Kds w eo m E) (hp : Pred g lb (fun i => kv (E i)) m p w) :
    Calls Try.prog 59 #[.slice eo m c, .func (.func g) #[] lb] w (AnyPost (anyP m p) w) := by
  have H := hid (indexK_any g lb eg eo m c E p hm w hE hp)
  clear hE hp
  go_enter Try.func59, Try.ntmps59
  go_wp2_with (go_at_call 69; refine H.out.mono ?_; rintro e w' ⟨r, hr, rfl, hb⟩)
  have HR := hid hr
  clear hr
  go_wp2_with fail
  go_ret
  exact ⟨ret_bool (a := decide (0 ≤ r)) HR.out.any, hb⟩
set_option maxHeartbeats 3200000 in
theorem indexM_any (g : Nat) (lb : Array Value) (eg : ∀ args w, (callFunc g args).run Try.prog w = .ok (.enter g args) w) (eo : Option Addr) (m c : Nat) (C A : Nat → Int) (p : Nat → Bool) (hm : m ≤ 1000000) (w : World) (hE : Mks w eo m C A) (hp : Pred g lb (fun i => .agg #[.int .i64 (C i), .int .i64 (A i)]) m p w) :
    Calls Try.prog 75 #[.slice eo m c, .func (.func g) #[] lb] w (FstPost m p w) := by
  have HE := hid hE
  have HP := hid hp
  clear hE hp
  go_enter Try.func75, Try.ntmps75
  go_wp2
  go_loopw [5, 8] (fun _ iv wr => ∃ k : Nat, k ≤ m ∧ iv = .int .i64 k ∧ Hid (Below w.heap.size w wr) ∧ Hid (∀ j, j < k → p j = false)) (fun _ iv _ => m - (intOf iv).toNat)
  case atStart => exact ⟨0, Nat.zero_le _, rfl, Below.refl _ _, fun j hj => absurd hj (Nat.not_lt_zero _)⟩
  case round =>
    obtain ⟨k, hk, rfl, HB, HF⟩ := hrel
    by_cases hlt : k < m
    · obtain ⟨b, off, e, _, a0, a1⟩ := (HE.out.stays HB.out) k hlt
      subst e
      have hcall := HP.out k hlt wr HB.out
      cases hq : p k with
      | true =>
        rw [hq] at hcall
        have HC := hid hcall
        have HQ := hid hq
        clear hcall hq
        go_wp2_with fail
        refine HC.out.mono ?_
        rintro e w' ⟨rfl, hb'⟩
        go_wp2_with fail
        go_ret
        exact ⟨_, .inl ⟨k, hlt, HQ.out, rfl⟩, rfl, HB.out.trans (hb'.mono HB.out.size)⟩
      | false =>
        rw [hq] at hcall
        have HC := hid hcall
        have HQ := hid hq
        clear hcall hq
        go_wp2_with fail
        refine HC.out.mono ?_
        rintro e w' ⟨rfl, hb'⟩
        go_wp2_with fail
        have HB2 := hid (HB.out.trans (hb'.mono HB.out.size))
        clear hb'
        go_roundw
        case rel => exact ⟨k + 1, by omega, by go_num, HB2, hid (fun j hj => by
          by_cases e : j = k
          · subst e; exact HQ.out
          · exact HF.out j (by omega))⟩
        case measure => simp [intOf]; omega
    · obtain rfl : m = k := by omega
      go_wp2
      go_ret
      exact ⟨_, .inr ⟨HF.out, rfl⟩, rfl, HB.out⟩
set_option maxHeartbeats 1600000 in
theorem containsM_any (g : Nat) (lb : Array Value) (eg : ∀ args w, (callFunc g args).run Try.prog w = .ok (.enter g args) w) (eo : Option Addr) (m c : Nat) (C A : Nat → Int) (p : Nat → Bool) (hm : m ≤ 1000000) (w : World) (hE : Mks w eo m C A) (hp : Pred g lb (fun i => .agg #[.int .i64 (C i), .int .i64 (A i)]) m p w) :
    Calls Try.prog 68 #[.slice eo m c, .func (.func g) #[] lb] w (AnyPost (anyP m p) w) := by
  have H := hid (indexM_any g lb eg eo m c C A p hm w hE hp)
  clear hE hp
  go_enter Try.func68, Try.ntmps68
  go_wp2_with (go_at_call 75; refine H.out.mono ?_; rintro e w' ⟨r, hr, rfl, hb⟩)
  have HR := hid hr
  clear hr
  go_wp2_with fail
  go_ret
  exact ⟨ret_bool (a := decide (0 ≤ r)) HR.out.any, hb⟩
set_option maxHeartbeats 3200000 in
theorem indexI_any (g : Nat) (lb : Array Value) (eg : ∀ args w, (callFunc g args).run Try.prog w = .ok (.enter g args) w) (eo : Option Addr) (m c : Nat) (Z : Nat → Int) (p : Nat → Bool) (hm : m ≤ 1000000) (w : World) (hE : Ints w eo m Z) (hp : Pred g lb (fun i => .int .i64 (Z i)) m p w) :
    Calls Try.prog 76 #[.slice eo m c, .func (.func g) #[] lb] w (FstPost m p w) := by
  have HE := hid hE
  have HP := hid hp
  clear hE hp
  go_enter Try.func76, Try.ntmps76
  go_wp2
  go_loopw [5, 8] (fun _ iv wr => ∃ k : Nat, k ≤ m ∧ iv = .int .i64 k ∧ Hid (Below w.heap.size w wr) ∧ Hid (∀ j, j < k → p j = false)) (fun _ iv _ => m - (intOf iv).toNat)
  case atStart => exact ⟨0, Nat.zero_le _, rfl, Below.refl _ _, fun j hj => absurd hj (Nat.not_lt_zero _)⟩
  case round =>
    obtain ⟨k, hk, rfl, HB, HF⟩ := hrel
    by_cases hlt : k < m
    · obtain ⟨b, off, e, _, a0⟩ := (HE.out.stays HB.out) k hlt
      subst e
      have hcall := HP.out k hlt wr HB.out
      cases hq : p k with
      | true =>
        rw [hq] at hcall
        have HC := hid hcall
        have HQ := hid hq
        clear hcall hq
        go_wp2_with fail
        refine HC.out.mono ?_
        rintro e w' ⟨rfl, hb'⟩
        go_wp2_with fail
        go_ret
        exact ⟨_, .inl ⟨k, hlt, HQ.out, rfl⟩, rfl, HB.out.trans (hb'.mono HB.out.size)⟩
      | false =>
        rw [hq] at hcall
        have HC := hid hcall
        have HQ := hid hq
        clear hcall hq
        go_wp2_with fail
        refine HC.out.mono ?_
        rintro e w' ⟨rfl, hb'⟩
        go_wp2_with fail
        have HB2 := hid (HB.out.trans (hb'.mono HB.out.size))
        clear hb'
        go_roundw
        case rel => exact ⟨k + 1, by omega, by go_num, HB2, hid (fun j hj => by
          by_cases e : j = k
          · subst e; exact HQ.out
          · exact HF.out j (by omega))⟩
        case measure => simp [intOf]; omega
    · obtain rfl : m = k := by omega
      go_wp2
      go_ret
      exact ⟨_, .inr ⟨HF.out, rfl⟩, rfl, HB.out⟩
set_option maxHeartbeats 1600000 in
theorem containsI_any (g : Nat) (lb : Array Value) (eg : ∀ args w, (callFunc g args).run Try.prog w = .ok (.enter g args) w) (eo : Option Addr) (m c : Nat) (Z : Nat → Int) (p : Nat → Bool) (hm : m ≤ 1000000) (w : World) (hE : Ints w eo m Z) (hp : Pred g lb (fun i => .int .i64 (Z i)) m p w) :
    Calls Try.prog 71 #[.slice eo m c, .func (.func g) #[] lb] w (AnyPost (anyP m p) w) := by
  have H := hid (indexI_any g lb eg eo m c Z p hm w hE hp)
  clear hE hp
  go_enter Try.func71, Try.ntmps71
  go_wp2_with (go_at_call 76; refine H.out.mono ?_; rintro e w' ⟨r, hr, rfl, hb⟩)
  have HR := hid hr
  clear hr
  go_wp2_with fail
  go_ret
  exact ⟨ret_bool (a := decide (0 ≤ r)) HR.out.any, hb⟩
end Go.Proofs.Ytnhkblkijiipeaa
