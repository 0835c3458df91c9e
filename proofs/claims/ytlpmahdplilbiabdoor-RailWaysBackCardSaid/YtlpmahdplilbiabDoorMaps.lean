/-
  The map of spots that have been passed: its keys, its laws.
-/
import Derived.Test.YtlpmahdplilbiabDoorOpen
import Derived.Maps.OwnSet
import Derived.Maps.Views
import Derived.DeepKeys4
import Derived.MapViews
namespace Go.Proofs.YtlpmahdplilbiabDoor
open Go.RowKit Go.Maps Go.WideMaps

theorem row31 : (32 : TypeId) < Tryd.prog.types.size := of_decide_eq_true (by kernel_rfl)
theorem wide31 : (match Tryd.prog.underlying 32 with | some (.array _ _) | some (.struct _) => true | _ => false) = true := by rw [Tryd.underlying32]
theorem laid_ok : laidOutB Tryd.prog = true := by kernel_rfl
theorem deep31 : Tryd.prog.keyTypeAt 2 32 = true := by kernel_rfl
set_option maxRecDepth 100000 in
theorem klaw31 : KeyLaw Tryd.prog 32 := deep_law_laid laid_ok (m := 2) (by omega) row31 deep31 (by rw [Tryd.underlying32])
theorem keyed31 : Keyed Tryd.prog 32 := Keyed.of_law klaw31
theorem zero4 (w : World) : (zeroValue 4).run Tryd.prog w = .ok (.bool false) w := by kernel_rfl
theorem ktype31 : Tryd.prog.keyType 32 = true := by kernel_rfl
theorem size_types : ∃ m, Tryd.prog.types.size = m + 2 := ⟨Tryd.prog.types.size - 2, by have : 32 < Tryd.prog.types.size := row31; omega⟩
theorem key_ex (t p : Int) (ht : 0 ≤ t ∧ t ≤ 100000) (hp : 0 ≤ p ∧ p ≤ 5) : ∃ l, keyOf Tryd.prog 32 (.agg #[.int .i64 t, .int .i64 p, .int .i64 0]) = some l := by
  obtain ⟨m, hm⟩ := size_types
  have w1 : (Lit.int .i64 t).wf = true := by rw [Lit.wf]; simp [show IntKind.i64.min = -9223372036854775808 from by decide, show IntKind.i64.max = 9223372036854775807 from by decide]; omega
  have w2 : (Lit.int .i64 p).wf = true := by rw [Lit.wf]; simp [show IntKind.i64.min = -9223372036854775808 from by decide, show IntKind.i64.max = 9223372036854775807 from by decide]; omega
  have w3 : (Lit.int .i64 0).wf = true := by decide
  refine ⟨.string (keyBytes [.int .i64 t, .int .i64 p, .int .i64 0]), ?_⟩
  unfold keyOf
  simp only [Tryd.underlying32]
  rw [if_pos (by simp [ktype31, Value.formed, Tryd.underlying32, cells31]), hm]
  unfold Program.keyLits
  simp only [Tryd.underlying32, Value.cells]
  rw [if_pos (by rw [cells31]; exact ⟨rfl, by simp⟩)]
  simp [List.mapM_cons, Program.keyLits, Tryd.underlying3, cells3, w1, w2, w3]

/-- What the map of the first k spots says. -/
def Passed (k : Nat) (S : Nat → Int × Int × Int) (D : DataW Unit) : Prop :=
  ∀ (t p : Int) (l : Lit), keyOf Tryd.prog 32 (.agg #[.int .i64 t, .int .i64 p, .int .i64 0]) = some l → ∃ b : Bool, D.atKey l (.lit (.bool false)) = .lit (.bool b) ∧ (b = true ↔ ∃ i, i < k ∧ (S i).1 = t ∧ (S i).2.1 = p)
/-- The map of the first k spots, in the block M. -/
def MS (M k : Nat) (S : Nat → Int × Int × Int) (wr : World) : Prop := ∃ D : DataW Unit, wr.ownsMap Tryd.prog 32 (plainElem Tryd.prog 4) M k D ∧ Passed k S D
theorem MS.start (S : Nat → Int × Int × Int) (w : World) : MS w.heap.size 0 S (w.alloc (.map #[] 0)) :=
  ⟨.map [], World.ownsMap_made _ _ _ _, fun t p l h => ⟨false, rfl, ⟨fun h => (by cases h), fun ⟨i, hi, _⟩ => by omega⟩⟩⟩
theorem MS.lt {M k : Nat} {S : Nat → Int × Int × Int} {wr : World} (h : MS M k S wr) : M < wr.heap.size := by
  obtain ⟨D, h, _⟩ := h
  exact h.lt
theorem MS.stays {M k : Nat} {S : Nat → Int × Int × Int} {wr w' : World} (h : MS M k S wr) (hb : Below wr.heap.size wr w') : MS M k S w' := by
  have hl := h.lt
  obtain ⟨D, ⟨es, clock, h1, h2⟩, hP⟩ := h
  exact ⟨D, ⟨es, clock, (hb.block M hl).trans h1, h2⟩, hP⟩
set_option maxRecDepth 100000 in
theorem plain_bool {v : Value} {b : Bool} {ps : List MemPlace} (h : plainElem (H := Unit) Tryd.prog 4 v = some (.lit (.bool b), ps)) : v = .bool b := by
  unfold plainElem at h
  rw [Tryd.underlying4] at h
  cases v <;> simp at h
  rw [h.1]
theorem MS.look {M k : Nat} {S : Nat → Int × Int × Int} {wr : World} (h : MS M k S wr) {t p : Int} (ht : 0 ≤ t ∧ t ≤ 100000) (hp : 0 ≤ p ∧ p ≤ 5) :
    ∃ b : Bool, (Instr.lookup 44 (.map (some M)) (.agg #[.int .i64 t, .int .i64 p, .int .i64 0]) false).run Tryd.prog wr = .ok (.bool b) wr ∧ (b = true ↔ ∃ i, i < k ∧ (S i).1 = t ∧ (S i).2.1 = p) := by
  obtain ⟨D, h, hP⟩ := h
  obtain ⟨l, hl⟩ := key_ex t p ht hp
  obtain ⟨b, hb, hbi⟩ := hP t p l hl
  obtain ⟨v, ps, hrun, hv⟩ := h.lookup keyed31 Tryd.underlying44 (zero4 wr) (plainElem_bool Tryd.underlying4 false) hl
  rw [hb] at hv
  obtain rfl := plain_bool hv
  exact ⟨b, hrun, hbi⟩
theorem Passed.put {k : Nat} {S : Nat → Int × Int × Int} {D : DataW Unit} (h : Passed k S D) (hm : IsMap D) {l : Lit} (hl : keyOf Tryd.prog 32 (.agg #[.int .i64 (S k).1, .int .i64 (S k).2.1, .int .i64 0]) = some l) : Passed (k + 1) S (D.put l (.lit (.bool true))) := by
  intro t p l' hl'
  by_cases e : l' = l
  · subst e
    have hv := keyed31.inj hl' hl
    simp at hv
    exact ⟨true, atKey_put_same hm (keyed31.key hl) _ _, ⟨fun _ => ⟨k, by omega, hv.1.symm, hv.2.symm⟩, fun _ => rfl⟩⟩
  · obtain ⟨b, hb, hbi⟩ := h t p l' hl'
    refine ⟨b, by rw [atKey_put_other e]; exact hb, hbi.trans ⟨fun ⟨i, hi, h⟩ => ⟨i, by omega, h⟩, fun ⟨i, hi, h1, h2⟩ => ⟨i, ?_, h1, h2⟩⟩⟩
    by_cases hik : i < k
    · exact hik
    · obtain rfl : i = k := by omega
      rw [h1, h2, hl'] at hl
      exact absurd (by simpa using hl) e
end Go.Proofs.YtlpmahdplilbiabDoor
