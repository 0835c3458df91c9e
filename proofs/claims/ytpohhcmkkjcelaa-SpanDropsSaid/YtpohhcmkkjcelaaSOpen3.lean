/-
  A list of spans among a law's arguments has room for what it holds.
-/
import Derived.Test.YtpohhcmkkjcelaaSOpen2
namespace Go.Proofs.Ytpohhcmkkjcelaa
open Go.ChangeShapes Go.WideShapes Go.ChangeAt Go.RowKit

theorem spans_cap {H : Type} {enc : TypeId × Value → H} {w : World} {base : Nat} {held : Bool} {lo : Option Addr} {n cap : Nat} {d : DataW H} {p : List MemPlace}
    (h : DataW.Trod enc Try.prog w base (fun _ => true) held 34 (.slice lo n cap) d p) : n ≤ cap := by
  obtain ⟨fuel, hf⟩ := h
  have hf' : DataW.trod enc Try.prog w base (fun _ => true) held fuel 34 [.slice lo n cap] = some (d, p) := hf
  rcases Go.Deep.open_slice Try.underlying34 hf' with ⟨hcs, _⟩ | ⟨a, len, cap', m, n', D, Pl, hcs, _, hl, _⟩
  · simp at hcs
    omega
  · simp at hcs
    omega
end Go.Proofs.Ytpohhcmkkjcelaa
