/-
  symMerge of numbers, whatever the ranges.
-/
import Derived.Test.YtnfcibcpmaehoaaQS3I
namespace Go.Proofs.Ytnfcibcpmaehoaa
open Go.RowKit

theorem shI (B g N c : Nat) (E : Nat → Int) (r : Nat → Int) (G : Nat) (lb : Array Value) (eg : ∀ args w, (callFunc G args).run Try.prog w = .ok (.enter G args) w) (hrk : Rk N r) (hN : N ≤ 100000) : ∀ k, ShI B g N c E r G lb k := by
  intro k
  induction k with
  | zero => intro F a m b w h; omega
  | succ k ih =>
    intro F a m b w hk ham hmb hbN hf h1 h2 hi hM hcm
    by_cases e1 : m = a + 1
    · exact sym1I_any B g N c E r G lb eg hrk F hN hf a m b ham hmb hbN h2 hi w hM hcm e1
    by_cases e2 : b = m + 1
    · exact sym2I_any B g N c E r G lb eg hrk F hN hf a m b ham hmb hbN h1 hi w hM hcm e2 e1
    exact sym3I_any B g N c E r G lb eg hrk F hN hf a m b ham hmb hbN h1 h2 hi w hM hcm (fun F' a' m' b' w' hk' => ih F' a' m' b' w' (by omega)) (by omega) (by omega)
end Go.Proofs.Ytnfcibcpmaehoaa
