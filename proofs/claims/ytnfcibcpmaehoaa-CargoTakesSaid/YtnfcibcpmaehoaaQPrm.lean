/-
  Stable sorts, without the model: places change by swaps; ranges are exchanged, rotated, merged.
-/
import Derived.Test.YtnfcibcpmaehoaaQKit
namespace Go.Proofs.Ytnfcibcpmaehoaa

/-- Two places are exchanged. -/
def swp (f : Nat → Nat) (i j : Nat) : Nat → Nat := fun p => if p = i then f j else if p = j then f i else f p
/-- No value twice, none beyond. -/
structure Pf (N : Nat) (f : Nat → Nat) : Prop where
  inj : ∀ p q, p < N → q < N → f p = f q → p = q
  lt : ∀ p, p < N → f p < N
theorem Pf.id (N : Nat) : Pf N (fun p => p) := ⟨fun _ _ _ _ h => h, fun _ h => h⟩
theorem Pf.swp {N : Nat} {f : Nat → Nat} (h : Pf N f) {i j : Nat} (hi : i < N) (hj : j < N) : Pf N (swp f i j) := by
  refine ⟨fun p q hp hq e => ?_, fun p hp => ?_⟩
  · unfold Proofs.Ytnfcibcpmaehoaa.swp at e
    by_cases p1 : p = i
    · by_cases q1 : q = i
      · omega
      · by_cases q2 : q = j
        · rw [if_pos p1, if_neg q1, if_pos q2] at e
          have := h.inj _ _ hj hi e; omega
        · rw [if_pos p1, if_neg q1, if_neg q2] at e
          have := h.inj _ _ hj hq e; omega
    · by_cases p2 : p = j
      · by_cases q1 : q = i
        · rw [if_neg p1, if_pos p2, if_pos q1] at e
          have := h.inj _ _ hi hj e; omega
        · by_cases q2 : q = j
          · omega
          · rw [if_neg p1, if_pos p2, if_neg q1, if_neg q2] at e
            have := h.inj _ _ hi hq e; omega
      · by_cases q1 : q = i
        · rw [if_neg p1, if_neg p2, if_pos q1] at e
          have := h.inj _ _ hp hj e; omega
        · by_cases q2 : q = j
          · rw [if_neg p1, if_neg p2, if_neg q1, if_pos q2] at e
            have := h.inj _ _ hp hi e; omega
          · rw [if_neg p1, if_neg p2, if_neg q1, if_neg q2] at e
            exact h.inj _ _ hp hq e
  · unfold Proofs.Ytnfcibcpmaehoaa.swp
    split
    · exact h.lt j hj
    · split
      · exact h.lt i hi
      · exact h.lt p hp
/-- Only the places from a to b have turned, among themselves. -/
structure In (a b : Nat) (f g : Nat → Nat) : Prop where
  out : ∀ p, p < a ∨ b ≤ p → g p = f p
  mem : ∀ p, a ≤ p → p < b → ∃ q, a ≤ q ∧ q < b ∧ g p = f q
theorem In.refl (a b : Nat) (f : Nat → Nat) : In a b f f := ⟨fun _ _ => rfl, fun p h1 h2 => ⟨p, h1, h2, rfl⟩⟩
theorem In.trans {a b : Nat} {f g h : Nat → Nat} (x : In a b f g) (y : In a b g h) : In a b f h :=
  ⟨fun p hp => (y.out p hp).trans (x.out p hp), fun p h1 h2 => by
    obtain ⟨q, q1, q2, e⟩ := y.mem p h1 h2
    obtain ⟨s, s1, s2, e2⟩ := x.mem q q1 q2
    exact ⟨s, s1, s2, e.trans e2⟩⟩
theorem In.widen {a b a' b' : Nat} {f g : Nat → Nat} (x : In a b f g) (ha : a' ≤ a) (hb : b ≤ b') : In a' b' f g :=
  ⟨fun p hp => x.out p (by omega), fun p h1 h2 => by
    by_cases h : a ≤ p ∧ p < b
    · obtain ⟨q, q1, q2, e⟩ := x.mem p h.1 h.2
      exact ⟨q, by omega, by omega, e⟩
    · exact ⟨p, h1, h2, x.out p (by omega)⟩⟩
theorem In.swp {a b i j : Nat} (f : Nat → Nat) (hi : a ≤ i ∧ i < b) (hj : a ≤ j ∧ j < b) : In a b f (swp f i j) := by
  refine ⟨fun p hp => ?_, fun p h1 h2 => ?_⟩
  · unfold Proofs.Ytnfcibcpmaehoaa.swp; rw [if_neg (by omega), if_neg (by omega)]
  · unfold Proofs.Ytnfcibcpmaehoaa.swp
    split
    · exact ⟨j, hj.1, hj.2, rfl⟩
    · split
      · exact ⟨i, hi.1, hi.2, rfl⟩
      · exact ⟨p, h1, h2, rfl⟩
/-- Sorted by rank. -/
def Srt (r : Nat → Int) (a b : Nat) (f : Nat → Nat) : Prop := ∀ p q, a ≤ p → p < q → q < b → r (f p) < r (f q)
/-- What stood ahead in the beginning stands in the first of two ranges. -/
def Idx (a m b : Nat) (f : Nat → Nat) : Prop := ∀ p q, a ≤ p → p < m → m ≤ q → q < b → f p < f q
/-- Ranks are unlike. -/
def Rk (N : Nat) (r : Nat → Int) : Prop := ∀ i j, i < N → j < N → r i = r j → i = j
theorem Rk.not {N : Nat} {r : Nat → Int} (h : Rk N r) {f : Nat → Nat} (hf : Pf N f) {p q : Nat} (hp : p < N) (hq : q < N) (hne : p ≠ q) (hn : ¬ r (f p) < r (f q)) : r (f q) < r (f p) := by
  have h1 := hf.lt p hp
  have h2 := hf.lt q hq
  by_cases e : r (f p) = r (f q)
  · exact absurd (hf.inj p q hp hq (h _ _ h1 h2 e)) hne
  · omega
/-- Two ranges of n places are exchanged. -/
def exch (a b n : Nat) (f : Nat → Nat) : Nat → Nat := fun p => if a ≤ p ∧ p < a + n then f (p - a + b) else if b ≤ p ∧ p < b + n then f (p - b + a) else f p
theorem exch_zero (a b : Nat) (f : Nat → Nat) : exch a b 0 f = f := by
  funext p; unfold exch; rw [if_neg (by omega), if_neg (by omega)]
theorem exch_succ {a b i n : Nat} (f : Nat → Nat) (hi : i < n) (h : a + n ≤ b) : swp (exch a b i f) (a + i) (b + i) = exch a b (i + 1) f := by
  funext p
  unfold swp exch
  by_cases p1 : p = a + i
  · subst p1
    rw [if_pos rfl, if_neg (by omega), if_neg (by omega), if_pos (by omega)]
    congr 1; omega
  · rw [if_neg p1]
    by_cases p2 : p = b + i
    · subst p2
      rw [if_pos rfl, if_neg (by omega), if_neg (by omega), if_neg (by omega), if_pos (by omega)]
      congr 1; omega
    · rw [if_neg p2]
      by_cases c1 : a ≤ p ∧ p < a + i
      · rw [if_pos c1, if_pos (by omega)]
      · rw [if_neg c1, if_neg (show ¬ (a ≤ p ∧ p < a + (i + 1)) by omega)]
        by_cases c2 : b ≤ p ∧ p < b + i
        · rw [if_pos c2, if_pos (by omega)]
        · rw [if_neg c2, if_neg (by omega)]
/-- The ranges from a to m and from m to b change places. -/
def rot (a m b : Nat) (f : Nat → Nat) : Nat → Nat := fun p => if a ≤ p ∧ p < a + (b - m) then f (p - a + m) else if a + (b - m) ≤ p ∧ p < b then f (p - (b - m)) else f p
theorem rot_eq {i m : Nat} (f : Nat → Nat) (h : i ≤ m) : exch (m - i) m i f = rot (m - i) m (m + i) f := by
  funext p
  unfold exch rot
  by_cases c1 : m - i ≤ p ∧ p < m - i + i
  · rw [if_pos c1, if_pos (by omega)]
  · rw [if_neg c1, if_neg (show ¬ (m - i ≤ p ∧ p < m - i + (m + i - m)) by omega)]
    by_cases c2 : m ≤ p ∧ p < m + i
    · rw [if_pos c2, if_pos (by omega)]; congr 1; omega
    · rw [if_neg c2, if_neg (by omega)]
theorem rot_more {i j m : Nat} (f : Nat → Nat) (h : i ≤ m) (hj : j < i) : rot (m - (i - j)) m (m + j) (exch (m - i) m j f) = rot (m - i) m (m + j) f := by
  funext p
  unfold rot
  by_cases c1 : m - i ≤ p ∧ p < m - i + (m + j - m)
  · rw [if_pos c1, if_neg (by omega), if_neg (by omega)]
    unfold exch
    rw [if_pos (by omega)]
  · rw [if_neg c1]
    by_cases c2 : m - i + (m + j - m) ≤ p ∧ p < m + j
    · rw [if_pos c2]
      by_cases c3 : m - (i - j) ≤ p ∧ p < m - (i - j) + (m + j - m)
      · rw [if_pos c3]
        unfold exch
        rw [if_neg (by omega), if_pos (by omega)]
        congr 1; omega
      · rw [if_neg c3, if_pos (by omega)]
        unfold exch
        rw [if_neg (by omega), if_neg (by omega)]
    · rw [if_neg c2, if_neg (by omega), if_neg (by omega)]
      unfold exch
      rw [if_neg (by omega), if_neg (by omega)]
theorem rot_less {i j m : Nat} (f : Nat → Nat) (h : i ≤ m) (hj : i < j) : rot (m - i) m (m + (j - i)) (exch (m - i) (m + j - i) i f) = rot (m - i) m (m + j) f := by
  funext p
  unfold rot
  by_cases c1 : m - i ≤ p ∧ p < m - i + (m + (j - i) - m)
  · rw [if_pos c1, if_pos (by omega)]
    unfold exch
    by_cases c3 : m - i ≤ p - (m - i) + m ∧ p - (m - i) + m < m - i + i
    · omega
    · rw [if_neg c3, if_neg (by omega)]
  · rw [if_neg c1]
    by_cases c2 : m - i + (m + (j - i) - m) ≤ p ∧ p < m + (j - i)
    · rw [if_pos c2, if_pos (by omega)]
      unfold exch
      rw [if_pos (by omega)]
      congr 1; omega
    · rw [if_neg c2]
      unfold exch
      by_cases c4 : m - i ≤ p ∧ p < m - i + i
      · omega
      · rw [if_neg c4]
        by_cases c5 : m + j - i ≤ p ∧ p < m + j - i + i
        · rw [if_pos c5, if_neg (by omega), if_pos (by omega)]
          congr 1; omega
        · rw [if_neg c5, if_neg (by omega), if_neg (by omega)]
theorem rot_in {a m b : Nat} (f : Nat → Nat) (h1 : a ≤ m) (h2 : m ≤ b) : In a b f (rot a m b f) := by
  refine ⟨fun p hp => ?_, fun p p1 p2 => ?_⟩
  · unfold rot; rw [if_neg (by omega), if_neg (by omega)]
  · unfold rot
    by_cases c : a ≤ p ∧ p < a + (b - m)
    · rw [if_pos c]; exact ⟨_, by omega, by omega, rfl⟩
    · rw [if_neg c, if_pos (by omega)]; exact ⟨_, by omega, by omega, rfl⟩
theorem rot_left {a m b p : Nat} (f : Nat → Nat) (h : a ≤ p ∧ p < a + (b - m)) : rot a m b f p = f (p - a + m) := by unfold rot; rw [if_pos h]
theorem rot_right {a m b p : Nat} (f : Nat → Nat) (h : a + (b - m) ≤ p ∧ p < b) : rot a m b f p = f (p - (b - m)) := by unfold rot; rw [if_neg (by omega), if_pos h]
theorem rot_out {a m b p : Nat} (f : Nat → Nat) (h : p < a ∨ b ≤ p) (h1 : a ≤ m) (h2 : m ≤ b) : rot a m b f p = f p := (rot_in f h1 h2).out p h
theorem rot_nil1 {m b : Nat} (f : Nat → Nat) : rot m m b f = f := by
  funext p; unfold rot
  by_cases c : m ≤ p ∧ p < m + (b - m)
  · rw [if_pos c]; congr 1; omega
  · rw [if_neg c, if_neg (by omega)]
theorem rot_nil2 {a m : Nat} (f : Nat → Nat) : rot a m m f = f := by
  funext p; unfold rot
  rw [if_neg (by omega)]
  split
  · congr 1; omega
  · rfl
/-- What a rotation makes of two sorted ranges that are parted so. -/
structure Spl (r : Nat → Int) (a s mid e b : Nat) (g : Nat → Nat) : Prop where
  s1 : Srt r a s g
  s2 : Srt r s mid g
  s3 : Srt r mid e g
  s4 : Srt r e b g
  x : ∀ p q, a ≤ p → p < mid → mid ≤ q → q < b → r (g p) < r (g q)
  i1 : Idx a s mid g
  i2 : Idx mid e b g
theorem split_rot {r : Nat → Int} {a m b s e mid : Nat} {f : Nat → Nat} (h1 : Srt r a m f) (h2 : Srt r m b f) (hi : Idx a m b f) (hs1 : a ≤ s) (hs2 : s ≤ m) (he1 : m ≤ e) (he2 : e ≤ b) (hmid : s + (e - m) = mid)
    (hL : ∀ x y, a ≤ x → x < s → e ≤ y → y < b → r (f x) < r (f y)) (hR : ∀ x y, m ≤ x → x < e → s ≤ y → y < m → r (f x) < r (f y)) : Spl r a s mid e b (rot s m e f) := by
  have o (p : Nat) (h : p < s ∨ e ≤ p) : rot s m e f p = f p := rot_out f h hs2 he1
  have l (p : Nat) (h : s ≤ p ∧ p < mid) : rot s m e f p = f (p - s + m) := rot_left f (by omega)
  have t (p : Nat) (h : mid ≤ p ∧ p < e) : rot s m e f p = f (p - (e - m)) := rot_right f (by omega)
  refine ⟨fun p q p1 pq q1 => ?_, fun p q p1 pq q1 => ?_, fun p q p1 pq q1 => ?_, fun p q p1 pq q1 => ?_, fun p q p1 p2 q1 q2 => ?_, fun p q p1 p2 q1 q2 => ?_, fun p q p1 p2 q1 q2 => ?_⟩
  · rw [o p (by omega), o q (by omega)]; exact h1 p q p1 pq (by omega)
  · rw [l p (by omega), l q (by omega)]; exact h2 _ _ (by omega) (by omega) (by omega)
  · rw [t p (by omega), t q (by omega)]; exact h1 _ _ (by omega) (by omega) (by omega)
  · rw [o p (by omega), o q (by omega)]; exact h2 p q (by omega) pq q1
  · by_cases c : p < s
    · rw [o p (by omega)]
      by_cases d : q < e
      · rw [t q (by omega)]; exact h1 _ _ p1 (by omega) (by omega)
      · rw [o q (by omega)]; exact hL p q p1 c (by omega) q2
    · rw [l p (by omega)]
      by_cases d : q < e
      · rw [t q (by omega)]; exact hR _ _ (by omega) (by omega) (by omega) (by omega)
      · rw [o q (by omega)]; exact h2 _ _ (by omega) (by omega) q2
  · rw [o p (by omega), l q (by omega)]; exact hi _ _ p1 (by omega) (by omega) (by omega)
  · rw [t p (by omega), o q (by omega)]; exact hi _ _ (by omega) (by omega) (by omega) q2
/-- Two sorted ranges, the first all below the second. -/
theorem srt_join {r : Nat → Int} {a m b : Nat} {f : Nat → Nat} (h1 : Srt r a m f) (h2 : Srt r m b f) (h : ∀ p q, a ≤ p → p < m → m ≤ q → q < b → r (f p) < r (f q)) : Srt r a b f := fun p q p1 pq q1 => by
  by_cases c : q < m
  · exact h1 p q p1 pq c
  · by_cases d : p < m
    · exact h p q p1 d (by omega) q1
    · exact h2 p q (by omega) pq q1
theorem srt_cong {r : Nat → Int} {a b : Nat} {f g : Nat → Nat} (h : Srt r a b f) (e : ∀ p, a ≤ p → p < b → g p = f p) : Srt r a b g := fun p q p1 pq q1 => by
  rw [e p p1 (by omega), e q (by omega) q1]; exact h p q p1 pq q1
/-- The ranges that a split leaves are sorted by themselves. -/
theorem Spl.left {r : Nat → Int} {a s mid e b : Nat} {f g h : Nat → Nat} (S : Spl r a s mid e b f) (i1 : In a mid f g) (i2 : In mid b g h) (h1 : Srt r a mid g) (h2 : Srt r mid b h) : Srt r a b h := by
  refine srt_join (srt_cong h1 (fun p _ p2 => i2.out p (by omega))) h2 (fun p q p1 p2 q1 q2 => ?_)
  obtain ⟨p', a1, a2, ep⟩ := i1.mem p p1 p2
  obtain ⟨q', b1, b2, eq⟩ := i2.mem q q1 q2
  rw [i2.out p (by omega), ep, eq, i1.out q' (by omega)]
  exact S.x p' q' a1 a2 b1 b2
/-- An element is moved to the right, or to the left, over others. -/
def mvR (a i : Nat) (f : Nat → Nat) : Nat → Nat := fun p => if a ≤ p ∧ p < i then f (p + 1) else if p = i then f a else f p
theorem mvR_zero (a : Nat) (f : Nat → Nat) : mvR a a f = f := by
  funext p; unfold mvR; rw [if_neg (by omega)]; split
  · subst_vars; rfl
  · rfl
theorem mvR_succ {a i : Nat} (f : Nat → Nat) (h : a ≤ i) : swp (mvR a i f) i (i + 1) = mvR a (i + 1) f := by
  funext p; unfold swp mvR
  by_cases p1 : p = i
  · subst p1
    rw [if_pos rfl, if_neg (by omega), if_neg (by omega), if_pos (by omega)]
  · rw [if_neg p1]
    by_cases p2 : p = i + 1
    · subst p2
      rw [if_pos rfl, if_neg (by omega), if_pos rfl, if_neg (by omega), if_pos rfl]
    · rw [if_neg p2]
      by_cases c : a ≤ p ∧ p < i
      · rw [if_pos c, if_pos (by omega)]
      · rw [if_neg c, if_neg p1, if_neg (by omega), if_neg p2]
def mvL (m k : Nat) (f : Nat → Nat) : Nat → Nat := fun p => if k < p ∧ p ≤ m then f (p - 1) else if p = k then f m else f p
theorem mvL_zero (m : Nat) (f : Nat → Nat) : mvL m m f = f := by
  funext p; unfold mvL; rw [if_neg (by omega)]; split
  · subst_vars; rfl
  · rfl
theorem mvL_succ {m k : Nat} (f : Nat → Nat) (h : k + 1 ≤ m) : swp (mvL m (k + 1) f) (k + 1) k = mvL m k f := by
  funext p; unfold swp mvL
  by_cases p1 : p = k + 1
  · subst p1
    rw [if_pos rfl, if_neg (by omega), if_neg (by omega), if_pos (by omega)]
    rfl
  · rw [if_neg p1]
    by_cases p2 : p = k
    · subst p2
      rw [if_pos rfl, if_neg (by omega), if_pos rfl, if_neg (by omega), if_pos rfl]
    · rw [if_neg p2]
      by_cases c : k + 1 < p ∧ p ≤ m
      · rw [if_pos c, if_pos (by omega)]
      · rw [if_neg c, if_neg p1, if_neg (by omega), if_neg p2]
/-- One element merged into a sorted range to its right, to its left. -/
theorem one_right {r : Nat → Int} {a b i : Nat} {f : Nat → Nat} (h2 : Srt r (a + 1) b f) (hi1 : a + 1 ≤ i) (hi2 : i ≤ b) (hl : ∀ q, a + 1 ≤ q → q < i → r (f q) < r (f a)) (hg : ∀ q, i ≤ q → q < b → r (f a) < r (f q)) : Srt r a b (mvR a (i - 1) f) := fun p q p1 pq q1 => by
  unfold mvR
  by_cases c : p < i - 1
  · rw [if_pos ⟨p1, c⟩]
    by_cases d : q < i - 1
    · rw [if_pos (by omega)]; exact h2 _ _ (by omega) (by omega) (by omega)
    · rw [if_neg (by omega)]
      by_cases e : q = i - 1
      · rw [if_pos e]; exact hl _ (by omega) (by omega)
      · rw [if_neg e]; exact h2 _ _ (by omega) (by omega) q1
  · rw [if_neg (by omega), if_neg (show ¬ (a ≤ q ∧ q < i - 1) by omega), if_neg (show ¬ q = i - 1 by omega)]
    by_cases e : p = i - 1
    · rw [if_pos e]; exact hg _ (by omega) q1
    · rw [if_neg e]; exact h2 _ _ (by omega) pq q1
theorem one_left {r : Nat → Int} {a m i : Nat} {f : Nat → Nat} (h1 : Srt r a m f) (hi1 : a ≤ i) (hi2 : i ≤ m) (hl : ∀ q, a ≤ q → q < i → r (f q) < r (f m)) (hg : ∀ q, i ≤ q → q < m → r (f m) < r (f q)) : Srt r a (m + 1) (mvL m i f) := fun p q p1 pq q1 => by
  unfold mvL
  by_cases c : p < i
  · rw [if_neg (by omega), if_neg (by omega)]
    by_cases d : q < i
    · rw [if_neg (by omega), if_neg (by omega)]; exact h1 _ _ p1 pq (by omega)
    · by_cases e : q = i
      · rw [if_neg (by omega), if_pos e]; exact hl _ p1 c
      · rw [if_pos (by omega)]; exact h1 _ _ p1 (by omega) (by omega)
  · rw [if_pos (show i < q ∧ q ≤ m by omega)]
    by_cases e : p = i
    · rw [if_neg (by omega), if_pos e]; exact hg _ (by omega) (by omega)
    · rw [if_pos (by omega)]; exact h1 _ _ (by omega) (by omega) (by omega)
end Go.Proofs.Ytnfcibcpmaehoaa
