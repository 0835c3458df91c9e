/-
  The walk of below: the better one of the two ways below a place of a queue.
-/
import Derived.Test.YtokpdjdpeaccbaaGPsh2
namespace Go.Proofs.Ytokpdjdpeaccbaa
open Go.RowKit

theorem row_keep2 {B g q c : Nat} {L : Nat → Wy} {i j : Nat} {X : Prop} {w w' : World} (hi : i < q) (hj : j < q) (h : RowW w B (.slice (some ⟨g, 0, none⟩) q c) q L ∧ X) (k : Below w.heap.size w w') :
    RowW w' B (.slice (some ⟨g, 0, none⟩) q c) q L ∧ w'.cell? ⟨g, i * 4, none⟩ = some (.int .i64 (L i).nd) ∧ w'.cell? ⟨g, i * 4 + 1, none⟩ = some (.int .i64 (L i).co) ∧ w'.cell? ⟨g, i * 4 + 2, none⟩ = some (.int .i64 (L i).ns) ∧ w'.cell? ⟨g, i * 4 + 3, none⟩ = some (.int .i64 (L i).nx) ∧
      w'.cell? ⟨g, j * 4, none⟩ = some (.int .i64 (L j).nd) ∧ w'.cell? ⟨g, j * 4 + 1, none⟩ = some (.int .i64 (L j).co) ∧ w'.cell? ⟨g, j * 4 + 2, none⟩ = some (.int .i64 (L j).ns) ∧ w'.cell? ⟨g, j * 4 + 3, none⟩ = some (.int .i64 (L j).nx) := by
  have h' : RowW w' B (.slice (some ⟨g, 0, none⟩) q c) q L := row_stays h.1 k
  have a := h'.cell hi
  have b := h'.cell hj
  exact ⟨h', a.1, a.2.1, a.2.2.1, a.2.2.2, b.1, b.2.1, b.2.2.1, b.2.2.2⟩
def BelowIs (q a : Nat) (L : Nat → Wy) (w : World) (e : Ending) (w' : World) : Prop := ∃ b, Bet Wy.rk q a b L ∧ b ≤ 2 * a + 2 ∧ e = .returned (.int .i64 (b : Nat)) ∧ Below w.heap.size w w'
set_option maxHeartbeats 6400000 in
theorem below_any (B g q c a : Nat) (L : Nat → Wy) (hq : q ≤ 100000001) (ha : a ≤ 100000001) (w : World) (hM : RowW w B (.slice (some ⟨g, 0, none⟩) q c) q L) :
    Calls Try.prog 88 #[.slice (some ⟨g, 0, none⟩) q c, .int .i64 a] w (BelowIs q a L w) := by
  have H := hid hM
  clear hM
  obtain ⟨l, hl⟩ : ∃ l, l = 2 * a + 1 := ⟨_, rfl⟩
  obtain ⟨r, hr⟩ : ∃ r, r = l + 1 := ⟨_, rfl⟩
  have e1 : IntKind.i64.wrap (2 * (a : Int)) = 2 * (a : Int) := by rw [IntKind.wrap_i64]; omega
  have e2 : 2 * (a : Int) + 1 = (l : Int) := by omega
  have e3 : IntKind.i64.wrap (2 * (a : Int) + 1) = (l : Int) := by rw [IntKind.wrap_i64]; omega
  have e4 : (l : Int) + 1 = (r : Int) := by omega
  have e5 : IntKind.i64.wrap ((l : Int) + 1) = (r : Int) := by rw [IntKind.wrap_i64]; omega
  have HL := hid hl
  have HR := hid hr
  clear hr hl
  go_enter Try.func88, Try.ntmps88
  by_cases hrq : r < q
  · have hlq : l < q := by have := HR.out; omega
    obtain ⟨b, hb⟩ : ∃ b, decide (lt3 (L r).rk (L l).rk) = b := ⟨_, rfl⟩
    have HB := hid hb
    clear hb
    go_wp2_with fail
    go_region_held3 (fun w' => RowW w' B (.slice (some ⟨g, 0, none⟩) q c) q L ∧ w'.cell? ⟨g, r * 4, none⟩ = some (.int .i64 (L r).nd) ∧ w'.cell? ⟨g, r * 4 + 1, none⟩ = some (.int .i64 (L r).co) ∧ w'.cell? ⟨g, r * 4 + 2, none⟩ = some (.int .i64 (L r).ns) ∧ w'.cell? ⟨g, r * 4 + 3, none⟩ = some (.int .i64 (L r).nx) ∧
          w'.cell? ⟨g, l * 4, none⟩ = some (.int .i64 (L l).nd) ∧ w'.cell? ⟨g, l * 4 + 1, none⟩ = some (.int .i64 (L l).co) ∧ w'.cell? ⟨g, l * 4 + 2, none⟩ = some (.int .i64 (L l).ns) ∧ w'.cell? ⟨g, l * 4 + 3, none⟩ = some (.int .i64 (L l).nx))
        (first
          | exact row_keep2 hrq hlq (And.intro H.out trivial) ((Below.refl _ _).drew)
          | exact row_keep2 hrq hlq (by assumption) hbel
          | assumption)
        (first
          | (go_at_call 46; (refine (better_is b HB.out _).mono ?_); rintro e w2 ⟨rfl, hbel⟩))
    have HBB : Hid (Below w.heap.size w w2) := hid (Below.trans (a := w) (b := w.drew) ((Below.refl _ _).drew) hbel)
    cases hbb : b
    · subst hbb
      go_wp2_with fail
      go_ret
      refine ⟨l, .inl ⟨HL.out, fun _ => ?_⟩, by have := HL.out; omega, rfl, HBB.out⟩
      have h1 := HB.out
      rw [← HL.out, show 2 * a + 2 = r by have := HL.out; have := HR.out; omega]
      simpa using h1
    · subst hbb
      go_wp2_with fail
      go_ret
      refine ⟨r, .inr ⟨by have := HL.out; have := HR.out; omega, hrq, ?_⟩, by have := HL.out; have := HR.out; omega, rfl, HBB.out⟩
      have h1 := HB.out
      rw [← HL.out]
      simpa using h1
  · have hd : decide (r < q) = false := by simpa using hrq
    go_wp2_with fail
    go_quiet (fail)
    go_wp2_with fail
    go_ret
    refine ⟨l, .inl ⟨HL.out, fun h => ?_⟩, by have := HL.out; omega, rfl, Joins.below_draws _ _ _⟩
    exfalso
    have := HL.out
    have := HR.out
    omega
end Go.Proofs.Ytokpdjdpeaccbaa
