/-
  The land of raw heights: each corner at most one above its neighbours, and as high as that lets it be.
-/
import Derived.Test.YtngamphkehppfaaLip
namespace Go.Proofs.Ytngamphkehppfaa

/-- The steps between two corners. -/
def dd (W i j : Nat) : Int := dist ((i % (W + 1) : Nat) : Int) ((j % (W + 1) : Nat) : Int) + dist ((i / (W + 1) : Nat) : Int) ((j / (W + 1) : Nat) : Int)
theorem dist_tri (a b c : Int) : dist a c ≤ dist a b + dist b c := by unfold dist; split <;> split <;> split <;> omega
theorem dist_self (a : Int) : dist a a = 0 := by unfold dist; simp
theorem dd_tri (W i j k : Nat) : dd W i k ≤ dd W i j + dd W j k := by
  unfold dd
  have := dist_tri ((i % (W + 1) : Nat) : Int) ((j % (W + 1) : Nat) : Int) ((k % (W + 1) : Nat) : Int)
  have := dist_tri ((i / (W + 1) : Nat) : Int) ((j / (W + 1) : Nat) : Int) ((k / (W + 1) : Nat) : Int)
  omega
theorem dd_self (W i : Nat) : dd W i i = 0 := by unfold dd; rw [dist_self, dist_self]; rfl
theorem dd_comm (W i j : Nat) : dd W i j = dd W j i := by unfold dd; rw [dist_comm, dist_comm ((i / (W + 1) : Nat) : Int)]
/-- Neighbouring heights differ by no more than the steps. -/
def Lip (W n : Nat) (G : Nat → Int) : Prop := ∀ i j, i < n → j < n → G i ≤ G j + dd W i j
/-- Nothing that is right and not above R is above Y. -/
def Lo (W n : Nat) (R Y : Nat → Int) : Prop := ∀ G, Lip W n G → (∀ i, i < n → G i ≤ R i) → ∀ i, i < n → G i ≤ Y i
/-- Y is cut to what all corners allow. -/
def Up (W n : Nat) (R Y : Nat → Int) : Prop := ∀ i j, i < n → j < n → Y i ≤ R j + dd W i j

theorem exists_min (f : Nat → Int) : ∀ n, 0 < n → ∃ j, j < n ∧ ∀ k, k < n → f j ≤ f k := by
  intro n
  induction n with
  | zero => intro h; omega
  | succ n ih =>
    intro _
    by_cases h : n = 0
    · subst h; exact ⟨0, by omega, fun k hk => by obtain rfl : k = 0 := by omega
                                                  exact Int.le_refl _⟩
    · obtain ⟨j, hj, hm⟩ := ih (by omega)
      by_cases hc : f j ≤ f n
      · refine ⟨j, by omega, fun k hk => ?_⟩
        by_cases hk' : k < n
        · exact hm k hk'
        · obtain rfl : k = n := by omega
          exact hc
      · refine ⟨n, by omega, fun k hk => ?_⟩
        by_cases hk' : k < n
        · have := hm k hk'; omega
        · obtain rfl : k = n := by omega
          exact Int.le_refl _
theorem env_ex (W n : Nat) (hn : 0 < n) (R : Nat → Int) : ∃ D : Nat → Int, Up W n R D ∧ ∀ i, ∃ j, j < n ∧ D i = R j + dd W i j := by
  have h : ∀ i, ∃ x : Int, (∀ k, k < n → x ≤ R k + dd W i k) ∧ ∃ j, j < n ∧ x = R j + dd W i j := fun i => by
    obtain ⟨j, hj, hm⟩ := exists_min (fun j => R j + dd W i j) n hn
    exact ⟨_, hm, j, hj, rfl⟩
  exact ⟨fun i => Classical.choose (h i), fun i j _ hj => (Classical.choose_spec (h i)).1 j hj, fun i => (Classical.choose_spec (h i)).2⟩
theorem env_lip {W n : Nat} {R D : Nat → Int} (hu : Up W n R D) (ha : ∀ i, ∃ j, j < n ∧ D i = R j + dd W i j) : Lip W n D := by
  intro i j hi hj
  obtain ⟨k, hk, e⟩ := ha j
  have h1 := hu i k hi hk
  have h2 := dd_tri W i j k
  omega
theorem settle_le {W n : Nat} {R Y1 Y2 : Nat → Int} (h1 : Up W n R Y1) (h2 : Lo W n R Y2) {i : Nat} (hi : i < n) : Y1 i ≤ Y2 i := by
  obtain ⟨D, hu, ha⟩ := env_ex W n (by omega) R
  have hd := h2 D (env_lip hu ha) (fun k hk => by have := hu k k hk hk; rw [dd_self] at this; omega) i hi
  obtain ⟨j, hj, e⟩ := ha i
  have := h1 i j hi hj
  omega
theorem settle_one {W n : Nat} {R Y1 Y2 : Nat → Int} (h1 : Up W n R Y1) (h1' : Lo W n R Y1) (h2 : Up W n R Y2) (h2' : Lo W n R Y2) : ∀ i, i < n → Y1 i = Y2 i :=
  fun _ hi => Int.le_antisymm (settle_le h1 h2' hi) (settle_le h2 h1' hi)
theorem settle_lip {W n : Nat} {R Y : Nat → Int} (h1 : Up W n R Y) (h1' : Lo W n R Y) : Lip W n Y := by
  intro i j hi hj
  obtain ⟨D, hu, ha⟩ := env_ex W n (by omega) R
  have hl := env_lip hu ha
  have hlo : Lo W n R D := fun G hg hr k hk => by
    obtain ⟨q, hq, e⟩ := ha k
    have := hg k q hk hq
    have := hr q hq
    omega
  rw [settle_one h1 h1' hu hlo i hi, settle_one h1 h1' hu hlo j hj]
  exact hl i j hi hj
/-- A right land's heights, and back. -/
theorem Good.lip {W H n : Nat} {Z : Nat → Int} (hg : Good W H n Z) : Lip W n Z := by
  intro i j hi hj
  have hv := Nat.div_lt_of_lt_mul (show j < (W + 1) * (H + 1) by rw [← hg.len]; exact hj)
  have hu := Nat.mod_lt j (show 0 < W + 1 by omega)
  have := dist_le.1 (Go.Proofs.Ytngamphkehppfaa.lip hg (x := j % (W + 1)) (y := j / (W + 1)) (by omega) (by omega) hi)
  have e := at_split W j
  rw [← e] at this
  have e2 : far W ((j % (W + 1) : Nat) : Int) ((j / (W + 1) : Nat) : Int) i = dd W i j := rfl
  rw [e2] at this
  omega
theorem good_of_lip {W H n : Nat} {Y : Nat → Int} (hs : Shaped W H n) (hh : High n Y) (hl : Lip W n Y) : Good W H n Y := by
  have hn : n = (W + 1) * (H + 1) := by
    have := hs.2
    have e : ((W : Int) + 1) * ((H : Int) + 1) = (((W + 1) * (H + 1) : Nat) : Int) := by simp
    omega
  have hlt : ∀ v u, u < W + 1 → v < H + 1 → v * (W + 1) + u < n := fun v u hu hv => by
    have hb : (v + 1) * (W + 1) ≤ (H + 1) * (W + 1) := Nat.mul_le_mul_right _ (by omega)
    have hb2 : (v + 1) * (W + 1) = v * (W + 1) + (W + 1) := Nat.succ_mul _ _
    rw [hn, Nat.mul_comm (W + 1)]; omega
  refine good_of hs hh (fun v u hu hv => ?_) (fun v u hu hv => ?_)
  · have l1 := hlt v (u + 1) hu hv
    have l2 := hlt v u (by omega) hv
    have h1 := hl _ _ l1 l2
    have h2 := hl _ _ l2 l1
    have e : dd W (v * (W + 1) + (u + 1)) (v * (W + 1) + u) = 1 := by
      unfold dd; rw [at_mod hu, at_mod (show u < W + 1 by omega), at_div hu, at_div (show u < W + 1 by omega)]; unfold dist; simp; omega
    rw [dd_comm, e] at h2
    rw [e] at h1
    rw [show v * (W + 1) + u + 1 = v * (W + 1) + (u + 1) from rfl, dist_le]; omega
  · have l1 := hlt (v + 1) u hu hv
    have l2 := hlt v u hu (by omega)
    have h1 := hl _ _ l1 l2
    have h2 := hl _ _ l2 l1
    have e : dd W ((v + 1) * (W + 1) + u) (v * (W + 1) + u) = 1 := by
      unfold dd; rw [at_mod hu, at_mod hu, at_div hu, at_div hu]; unfold dist; simp; omega
    rw [dd_comm, e] at h2
    rw [e] at h1
    rw [dist_le]; omega

/-- One number is changed. -/
def upd (Y : Nat → Int) (p : Nat) (x : Int) : Nat → Int := fun i => if i = p then x else Y i
theorem upd_at (Y : Nat → Int) (p : Nat) (x : Int) : upd Y p x p = x := if_pos rfl
theorem upd_off (Y : Nat → Int) {p i : Nat} (x : Int) (h : i ≠ p) : upd Y p x i = Y i := if_neg h
theorem Lo.cut {W n : Nat} {R Y : Nat → Int} (h : Lo W n R Y) {p q : Nat} (hp : p < n) (hq : q < n) (hd : dd W p q = 1) : Lo W n R (upd Y p (Y q + 1)) := by
  intro G hg hr i hi
  by_cases e : i = p
  · subst e; rw [upd_at]
    have h1 := hg i q hi hq
    have h2 := h G hg hr q hq
    omega
  · rw [upd_off _ _ e]; exact h G hg hr i hi
theorem Up.cut {W n : Nat} {R Y : Nat → Int} (h : Up W n R Y) {p : Nat} {x : Int} (hx : x ≤ Y p) : Up W n R (upd Y p x) := by
  intro i j hi hj
  by_cases e : i = p
  · subst e; rw [upd_at]; have := h i j hi hj; omega
  · rw [upd_off _ _ e]; exact h i j hi hj
end Go.Proofs.Ytngamphkehppfaa
