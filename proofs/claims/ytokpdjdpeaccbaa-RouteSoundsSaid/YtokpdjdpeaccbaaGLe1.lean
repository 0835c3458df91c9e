/-
  What Least's best is, as pure facts.
-/
import Derived.Test.YtokpdjdpeaccbaaGTrail
namespace Go.Proofs.Ytokpdjdpeaccbaa
open Go.RowKit

/-- A way from u on, as Least compares them. -/
def cw (L : Nat → Wy) (u : Nat) : Wy := ⟨0, (L u).co, (L u).ns, (u : Int)⟩
def stepB (L : Nat → Wy) (b : Wy) (u : Nat) : Wy := if 0 < (L u).ns ∧ (b.ns = 0 ∨ lt3 (cw L u).rk b.rk) then cw L u else b
/-- The best among the first. -/
def bestOf (L : Nat → Wy) (p : Nat) (Y : Nat → Nat) : Wy := (List.range p).foldl (fun b j => stepB L b (Y j)) nilW
theorem bestOf_succ (L : Nat → Wy) (p : Nat) (Y : Nat → Nat) : bestOf L (p + 1) Y = stepB L (bestOf L p Y) (Y p) := by simp [bestOf, List.range_succ]
theorem bestOf_zero (L : Nat → Wy) (Y : Nat → Nat) : bestOf L 0 Y = nilW := rfl
/-- What the best is. -/
theorem bestOf_is (L : Nat → Wy) (Y : Nat → Nat) : ∀ p, (bestOf L p Y = nilW ∧ ∀ j, j < p → (L (Y j)).ns = 0) ∨ (∃ j, j < p ∧ bestOf L p Y = cw L (Y j) ∧ 0 < (L (Y j)).ns ∧ ∀ i, i < p → 0 < (L (Y i)).ns → ¬ lt3 (cw L (Y i)).rk (cw L (Y j)).rk)
  | 0 => .inl ⟨rfl, fun j hj => by omega⟩
  | p + 1 => by
    rw [bestOf_succ]
    unfold stepB
    rcases bestOf_is L Y p with ⟨h1, h2⟩ | ⟨j, hj, h1, h2, h3⟩
    · rw [h1]
      by_cases hp : 0 < (L (Y p)).ns
      · rw [if_pos ⟨hp, .inl rfl⟩]
        refine .inr ⟨p, by omega, rfl, hp, fun i hi hi2 => ?_⟩
        by_cases e : i = p
        · subst e; exact lt3_irrefl _
        · have := h2 i (by omega); omega
      · rw [if_neg (fun h => hp h.1)]
        refine .inl ⟨rfl, fun j hj => ?_⟩
        by_cases e : j = p
        · subst e; omega
        · exact h2 j (by omega)
    · rw [h1]
      by_cases hp : 0 < (L (Y p)).ns ∧ ((cw L (Y j)).ns = 0 ∨ lt3 (cw L (Y p)).rk (cw L (Y j)).rk)
      · rw [if_pos hp]
        refine .inr ⟨p, by omega, rfl, hp.1, fun i hi hi2 => ?_⟩
        by_cases e : i = p
        · subst e; exact lt3_irrefl _
        · have := h3 i (by omega) hi2
          rcases hp.2 with h | h
          · simp only [cw] at h; omega
          · exact fun h' => this (by unfold lt3 at *; omega)
      · rw [if_neg hp]
        refine .inr ⟨j, by omega, rfl, h2, fun i hi hi2 => ?_⟩
        by_cases e : i = p
        · subst e; exact fun h => hp ⟨hi2, .inr h⟩
        · exact h3 i (by omega) hi2
section
variable {G : Gr} {q : Nat} {X : Nat → Nat} {xs : List Wy}
/-- A node with a way stands in the table with it. -/
theorem tbl_found (hr : (ledBy G q X).Run xs) (hf : (ledBy G q X).Fin xs) {v c k : Nat} (h : Opt G (fun v => ∃ j, j < q ∧ X j = v) v c k) :
    (tbl xs v).nd = v ∧ (tbl xs v).co = c ∧ (tbl xs v).ns = k + 1 ∧ Found G (fun v => ∃ j, j < q ∧ X j = v) (tbl xs v) := by
  obtain ⟨h1, h2⟩ := led_found hr hf
  obtain ⟨w, hw, rfl⟩ := h2 _ _ _ h.1
  have hF := h1 w hw
  rw [tbl_at (show (xs.map Wy.nd).Nodup from hr.nodup) hw]
  obtain ⟨e1, e2⟩ := hF.opt.uniq h
  have := hF.pos
  exact ⟨rfl, e1, by omega, hF⟩
/-- And one that stands there has one. -/
theorem tbl_opt (hr : (ledBy G q X).Run xs) (hf : (ledBy G q X).Fin xs) {v : Nat} (h : 0 < (tbl xs v).ns) : Opt G (fun v => ∃ j, j < q ∧ X j = v) v (tbl xs v).co ((tbl xs v).ns - 1) := by
  by_cases hm : v ∈ xs.map Wy.nd
  · obtain ⟨w, hw, rfl⟩ := List.mem_map.1 hm
    rw [tbl_at (show (xs.map Wy.nd).Nodup from hr.nodup) hw]
    exact ((led_found hr hf).1 w hw).opt
  · rw [tbl_no hm] at h
    exact absurd h (by decide)
theorem trail_ex (hr : (ledBy G q X).Run xs) (hf : (ledBy G q X).Fin xs) {n : Nat} (hn : ∀ i, i < G.m → G.f i < n) : ∀ {k v c : Nat}, v < n → Opt G (fun v => ∃ j, j < q ∧ X j = v) v c k → ∃ l, Tr (tbl xs) (v : Int) l ∧ l.length = k + 1 ∧ ∀ u ∈ l, u < n
  | 0, v, c, hv, h => by
    obtain ⟨h1, h2, h3, hF⟩ := tbl_found hr hf h
    rcases h.last with ⟨hs, _⟩ | ⟨i, c', k', _, _, _, _, e⟩
    · have h4 := hF.one (h1.symm ▸ hs)
      refine ⟨[v], .step ?_, rfl, fun u hu => by simp at hu; omega⟩
      rw [h4]
      exact .done
    · omega
  | k + 1, v, c, hv, h => by
    obtain ⟨h1, h2, h3, hF⟩ := tbl_found hr hf h
    obtain ⟨i, c', k', hi, ht, hx, ho, _, e⟩ := hF.next (by omega)
    obtain rfl : k' = k := by omega
    obtain ⟨l, hl, hlen, hln⟩ := trail_ex hr hf hn (hn i hi) ho
    refine ⟨v :: l, .step (by rw [hx]; exact hl), by simp [hlen], fun u hu => ?_⟩
    rcases List.mem_cons.1 hu with rfl | hu
    · exact hv
    · exact hln u hu
end
/-- What Least leaves where nothing is wrong. -/
def LeastP (p q : Nat) (G : Gr) (X Y : Nat → Nat) (w : World) (e : Ending) (w' : World) : Prop := ∃ xs, (ledBy G q X).Run xs ∧ (ledBy G q X).Fin xs ∧ Below w.heap.size w w' ∧
  (((bestOf (tbl xs) p Y).ns = 0 ∧ e = .returned (.tuple #[.slice none 0 0, .int .i64 0, .bool false, .int .i64 0])) ∨
   (0 < (bestOf (tbl xs) p Y).ns ∧ ∃ l v, Tr (tbl xs) (bestOf (tbl xs) p Y).nx l ∧ e = .returned (.tuple #[v, .int .i64 (bestOf (tbl xs) p Y).co, .bool true, .int .i64 0]) ∧ RowI w' w.heap.size v l.length (fun j => (l.getD j 0 : Int))))
end Go.Proofs.Ytokpdjdpeaccbaa
