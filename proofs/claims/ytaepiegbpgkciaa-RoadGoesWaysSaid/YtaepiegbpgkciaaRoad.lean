/-
  Streets in plain numbers: which streets are right, arms as bits, the tile beyond a side.
-/
namespace Go.Proofs.Ytaepiegbpgkciaa

/-- The sides are allowed. -/
def Sized (W H : Int) : Prop := (4 ≤ W ∧ W ≤ 32) ∧ 4 ≤ H ∧ H ≤ 32
theorem Sized.bound {W H : Int} (h : Sized W H) : 16 ≤ W * H ∧ W * H ≤ 1024 := by
  obtain ⟨⟨h1, h2⟩, h3, h4⟩ := h
  have a : W * H ≤ 32 * 32 := Int.mul_le_mul (by omega) (by omega) (by omega) (by omega)
  have b : 4 * 4 ≤ W * H := Int.mul_le_mul (by omega) (by omega) (by omega) (by omega)
  omega
/-- A tile's arms and ways are numbers that may be. -/
def Fine (z y : Int) : Prop := (0 ≤ z ∧ z ≤ 15) ∧ 0 ≤ y ∧ y ≤ 2
/-- A tile may have its ways. -/
def Carry (z y : Int) : Prop := y = 0 ∨ z = 5 ∨ z = 10
structure Args (W H : Int) (n m : Nat) (Z Y : Nat → Int) : Prop where
  sized : Sized W H
  arms : (n : Int) = W * H
  ways : (m : Int) = W * H
  fine : ∀ i, i < n → Fine (Z i) (Y i)
structure Right (W H : Int) (n m : Nat) (Z Y : Nat → Int) : Prop where
  args : Args W H n m Z Y
  carry : ∀ i, i < n → Carry (Z i) (Y i)
/-- The error of streets. -/
def VErr (W H : Int) (n m : Nat) (Z Y : Nat → Int) (e : Int) : Prop :=
  (e = 0 ∧ Right W H n m Z Y) ∨ (e = 1 ∧ ¬ Args W H n m Z Y) ∨ (e = 9 ∧ Args W H n m Z Y ∧ ¬ Right W H n m Z Y)
theorem VErr.ex (W H : Int) (n m : Nat) (Z Y : Nat → Int) : ∃ e, VErr W H n m Z Y e := by
  by_cases h : Args W H n m Z Y
  · by_cases k : Right W H n m Z Y
    · exact ⟨0, .inl ⟨rfl, k⟩⟩
    · exact ⟨9, .inr (.inr ⟨rfl, h, k⟩)⟩
  · exact ⟨1, .inr (.inl ⟨rfl, h⟩)⟩
section
variable {W H : Int} {n m : Nat} {Z Y : Nat → Int} {e : Int}
theorem VErr.ok (h : VErr W H n m Z Y e) (k : Right W H n m Z Y) : 0 = e := by
  rcases h with ⟨h, _⟩ | ⟨_, h⟩ | ⟨_, _, h⟩
  · exact h.symm
  · exact absurd k.args h
  · exact absurd k h
theorem VErr.arg (h : VErr W H n m Z Y e) (k : ¬ Args W H n m Z Y) : 1 = e := by
  rcases h with ⟨_, h⟩ | ⟨h, _⟩ | ⟨_, h, _⟩
  · exact absurd h.args k
  · exact h.symm
  · exact absurd h k
theorem VErr.rule (h : VErr W H n m Z Y e) (k : Args W H n m Z Y) (q : ¬ Right W H n m Z Y) : 9 = e := by
  rcases h with ⟨_, h⟩ | ⟨_, h⟩ | ⟨h, _⟩
  · exact absurd h q
  · exact absurd k h
  · exact h.symm
theorem VErr.bd (h : VErr W H n m Z Y e) : e = 0 ∨ e = 1 ∨ e = 9 := by
  rcases h with ⟨h, _⟩ | ⟨h, _⟩ | ⟨h, _⟩ <;> omega
theorem verr_ok (h : Right W H n m Z Y) : VErr W H n m Z Y 0 := .inl ⟨rfl, h⟩
theorem Right.sized (h : Right W H n m Z Y) : Sized W H := h.args.sized
theorem Right.eq (h : Right W H n m Z Y) : n = m := by have := h.args.arms; have := h.args.ways; omega
theorem Right.small (h : Right W H n m Z Y) : 16 ≤ n ∧ n ≤ 1024 := by have := h.args.arms; have := h.sized.bound; omega
end

/-- The tile beyond a side of the tile in column x, row y; -1: the map ends. -/
def beyXY (W H x y s : Int) : Int :=
  if s = 0 then (if x + 1 < W then y * W + (x + 1) else -1) else if s = 1 then (if y + 1 < H then (y + 1) * W + x else -1)
  else if s = 2 then (if 0 < x then y * W + (x - 1) else -1) else (if 0 < y then (y - 1) * W + x else -1)
def bey (W H t s : Int) : Int := beyXY W H (t % W) (t / W) s
theorem split_tile {W H t : Int} (hs : Sized W H) (h0 : 0 ≤ t) (h1 : t < W * H) : (0 ≤ t % W ∧ t % W < W) ∧ (0 ≤ t / W ∧ t / W < H) ∧ t / W * W + t % W = t := by
  obtain ⟨⟨w1, w2⟩, h3, h4⟩ := hs
  refine ⟨⟨Int.emod_nonneg _ (by omega), Int.emod_lt_of_pos _ (by omega)⟩, ⟨Int.ediv_nonneg h0 (by omega), Int.ediv_lt_of_lt_mul (by omega) (by rw [Int.mul_comm]; exact h1)⟩, ?_⟩
  have := Int.emod_add_mul_ediv t W
  rw [Int.mul_comm]; omega
theorem row_bd {W H y : Int} (hs : Sized W H) (h0 : 0 ≤ y) (h1 : y < H) : 0 ≤ y * W ∧ y * W + W ≤ W * H ∧ y * W + W ≤ 1024 := by
  have hb := hs.bound
  obtain ⟨⟨w1, w2⟩, h3, h4⟩ := hs
  have a : 0 ≤ y * W := Int.mul_nonneg h0 (by omega)
  have b : (y + 1) * W ≤ H * W := Int.mul_le_mul_of_nonneg_right (by omega) (by omega)
  rw [Int.add_mul, Int.one_mul, Int.mul_comm H W] at b
  omega
theorem beyXY_in {W H x y s : Int} (hs : Sized W H) (hx : 0 ≤ x ∧ x < W) (hy : 0 ≤ y ∧ y < H) (h : 0 ≤ beyXY W H x y s) : beyXY W H x y s < W * H := by
  unfold beyXY at h ⊢
  by_cases h0 : s = 0
  · rw [if_pos h0] at h ⊢
    by_cases hc : x + 1 < W
    · rw [if_pos hc]; have := row_bd hs hy.1 hy.2; omega
    · rw [if_neg hc] at h; omega
  · rw [if_neg h0] at h ⊢
    by_cases h1 : s = 1
    · rw [if_pos h1] at h ⊢
      by_cases hc : y + 1 < H
      · rw [if_pos hc]; have := row_bd (y := y + 1) hs (by omega) hc; omega
      · rw [if_neg hc] at h; omega
    · rw [if_neg h1] at h ⊢
      by_cases h2 : s = 2
      · rw [if_pos h2] at h ⊢
        by_cases hc : 0 < x
        · rw [if_pos hc]; have := row_bd hs hy.1 hy.2; omega
        · rw [if_neg hc] at h; omega
      · rw [if_neg h2] at h ⊢
        by_cases hc : 0 < y
        · rw [if_pos hc]; have := row_bd (y := y - 1) hs (by omega) (by omega); omega
        · rw [if_neg hc] at h; omega
theorem bey_in {W H t s : Int} (hs : Sized W H) (h0 : 0 ≤ t) (h1 : t < W * H) (h : 0 ≤ bey W H t s) : bey W H t s < W * H := by
  obtain ⟨a, b, _⟩ := split_tile hs h0 h1
  exact beyXY_in hs a b h
theorem parts_of {W x y : Int} (hx : 0 ≤ x ∧ x < W) : (y * W + x) % W = x ∧ (y * W + x) / W = y := by
  have hW : W ≠ 0 := by omega
  refine ⟨?_, ?_⟩
  · rw [Int.add_comm, Int.add_mul_emod_self_right]; exact Int.emod_eq_of_lt hx.1 hx.2
  · rw [Int.add_comm, Int.add_mul_ediv_right _ _ hW, Int.ediv_eq_zero_of_lt hx.1 hx.2]; omega
theorem bey_back {W H t s : Int} (hs : Sized W H) (h0 : 0 ≤ t) (h1 : t < W * H) (hs0 : 0 ≤ s) (hs3 : s ≤ 3) (h : 0 ≤ bey W H t s) : bey W H (bey W H t s) ((s + 2) % 4) = t := by
  obtain ⟨hx, hy, ht⟩ := split_tile hs h0 h1
  unfold bey at h ⊢
  obtain ⟨x, hx'⟩ : ∃ x, t % W = x := ⟨_, rfl⟩
  obtain ⟨y, hy'⟩ : ∃ y, t / W = y := ⟨_, rfl⟩
  rw [hx'] at h hx ht ⊢
  rw [hy'] at h hy ht ⊢
  rcases (show s = 0 ∨ s = 1 ∨ s = 2 ∨ s = 3 by omega) with rfl | rfl | rfl | rfl
  · by_cases hc : x + 1 < W
    · have e : beyXY W H x y 0 = y * W + (x + 1) := by unfold beyXY; rw [if_pos rfl, if_pos hc]
      rw [e, (parts_of (W := W) (x := x + 1) (y := y) (by omega)).1, (parts_of (W := W) (x := x + 1) (y := y) (by omega)).2]
      show beyXY W H (x + 1) y 2 = t
      unfold beyXY; rw [if_neg (by omega), if_neg (by omega), if_pos rfl, if_pos (by omega)]; omega
    · have e : beyXY W H x y 0 = -1 := by unfold beyXY; rw [if_pos rfl, if_neg hc]
      omega
  · by_cases hc : y + 1 < H
    · have e : beyXY W H x y 1 = (y + 1) * W + x := by unfold beyXY; rw [if_neg (by omega), if_pos rfl, if_pos hc]
      rw [e, (parts_of (W := W) (x := x) (y := y + 1) hx).1, (parts_of (W := W) (x := x) (y := y + 1) hx).2]
      show beyXY W H x (y + 1) 3 = t
      unfold beyXY; rw [if_neg (by omega), if_neg (by omega), if_neg (by omega), if_pos (by omega), show y + 1 - 1 = y by omega]; omega
    · have e : beyXY W H x y 1 = -1 := by unfold beyXY; rw [if_neg (by omega), if_pos rfl, if_neg hc]
      omega
  · by_cases hc : 0 < x
    · have e : beyXY W H x y 2 = y * W + (x - 1) := by unfold beyXY; rw [if_neg (by omega), if_neg (by omega), if_pos rfl, if_pos hc]
      rw [e, (parts_of (W := W) (x := x - 1) (y := y) (by omega)).1, (parts_of (W := W) (x := x - 1) (y := y) (by omega)).2]
      show beyXY W H (x - 1) y 0 = t
      unfold beyXY; rw [if_pos rfl, if_pos (by omega)]; omega
    · have e : beyXY W H x y 2 = -1 := by unfold beyXY; rw [if_neg (by omega), if_neg (by omega), if_pos rfl, if_neg hc]
      omega
  · by_cases hc : 0 < y
    · have e : beyXY W H x y 3 = (y - 1) * W + x := by unfold beyXY; rw [if_neg (by omega), if_neg (by omega), if_neg (by omega), if_pos hc]
      rw [e, (parts_of (W := W) (x := x) (y := y - 1) hx).1, (parts_of (W := W) (x := x) (y := y - 1) hx).2]
      show beyXY W H x (y - 1) 1 = t
      unfold beyXY; rw [if_neg (by omega), if_pos rfl, if_pos (by omega), show y - 1 + 1 = y by omega]; omega
    · have e : beyXY W H x y 3 = -1 := by unfold beyXY; rw [if_neg (by omega), if_neg (by omega), if_neg (by omega), if_neg hc]
      omega

/-- How many of the four arms there are; whether arms have the arm of a side. -/
def pop (z : Int) : Int := z % 2 + z / 2 % 2 + z / 4 % 2 + z / 8 % 2
def has (z s : Int) : Bool := z / 2 ^ s.toNat % 2 == 1
/-- Ways let one move in the direction of a side. -/
def lets (y s : Int) : Bool := decide (y = 0 ∨ y = 1 ∧ s < 2 ∨ y = 2 ∧ 1 < s)
/-- The tile beyond a side with which a tile is joined; -1: none. -/
def met (W H : Int) (Z : Nat → Int) (t s : Int) : Int :=
  if 0 ≤ bey W H t s ∧ has (Z t.toNat) s = true ∧ has (Z (bey W H t s).toNat) ((s + 2) % 4) = true then bey W H t s else -1
theorem met_yes {W H : Int} {Z : Nat → Int} {t s : Int} (h : 0 ≤ met W H Z t s) : met W H Z t s = bey W H t s ∧ 0 ≤ bey W H t s ∧ has (Z t.toNat) s = true ∧ has (Z (bey W H t s).toNat) ((s + 2) % 4) = true := by
  unfold met at h ⊢
  by_cases k : 0 ≤ bey W H t s ∧ has (Z t.toNat) s = true ∧ has (Z (bey W H t s).toNat) ((s + 2) % 4) = true
  · rw [if_pos k]; exact ⟨rfl, k⟩
  · rw [if_neg k] at h; omega
theorem met_no {W H : Int} {Z : Nat → Int} {t s : Int} (h : ¬ 0 ≤ met W H Z t s) : met W H Z t s = -1 := by
  unfold met at h ⊢
  by_cases k : 0 ≤ bey W H t s ∧ has (Z t.toNat) s = true ∧ has (Z (bey W H t s).toNat) ((s + 2) % 4) = true
  · rw [if_pos k] at h; omega
  · rw [if_neg k]
theorem met_back {W H : Int} {Z : Nat → Int} {t s : Int} (hs : Sized W H) (h0 : 0 ≤ t) (h1 : t < W * H) (hs0 : 0 ≤ s) (hs3 : s ≤ 3) (h : 0 ≤ met W H Z t s) : met W H Z (met W H Z t s) ((s + 2) % 4) = t := by
  obtain ⟨e, k0, k1, k2⟩ := met_yes h
  have hb := bey_back hs h0 h1 hs0 hs3 k0
  rw [e]
  unfold met
  rw [hb]
  have : ((s + 2) % 4 + 2) % 4 = s := by omega
  rw [this, if_pos ⟨h0, k2, k1⟩]
theorem met_in {W H : Int} {Z : Nat → Int} {t s : Int} (hs : Sized W H) (h0 : 0 ≤ t) (h1 : t < W * H) (h : 0 ≤ met W H Z t s) : met W H Z t s < W * H := by
  rw [(met_yes h).1]; exact bey_in hs h0 h1 (met_yes h).2.1
theorem has_zero (s : Int) : has 0 s = false := by unfold has; simp
/-- One may leave a tile through a side. -/
def leave (W H : Int) (Z Y : Nat → Int) (t s : Int) : Bool := decide (0 ≤ met W H Z t s) && lets (Y t.toNat) s && lets (Y (met W H Z t s).toNat) s
/-- The first k sides but one through which one may leave. -/
def outs (W H : Int) (Z Y : Nat → Int) (t fr : Int) : Nat → List Int
  | 0 => []
  | k + 1 => if (k : Int) ≠ fr ∧ leave W H Z Y t k = true then outs W H Z Y t fr k ++ [(k : Int)] else outs W H Z Y t fr k
theorem outs_yes {W H : Int} {Z Y : Nat → Int} {t fr : Int} {k : Nat} (h : (k : Int) ≠ fr) (h' : leave W H Z Y t k = true) : outs W H Z Y t fr (k + 1) = outs W H Z Y t fr k ++ [(k : Int)] := by
  show (if _ then _ else _) = _
  rw [if_pos ⟨h, h'⟩]
theorem outs_no {W H : Int} {Z Y : Nat → Int} {t fr : Int} {k : Nat} (h : ¬ ((k : Int) ≠ fr ∧ leave W H Z Y t k = true)) : outs W H Z Y t fr (k + 1) = outs W H Z Y t fr k := by
  show (if _ then _ else _) = _
  rw [if_neg h]
theorem outs_len (W H : Int) (Z Y : Nat → Int) (t fr : Int) (k : Nat) : (outs W H Z Y t fr k).length ≤ k := by
  induction k with
  | zero => exact Nat.le_refl _
  | succ k ih =>
    by_cases h : (k : Int) ≠ fr ∧ leave W H Z Y t k = true
    · rw [outs_yes h.1 h.2, List.length_append]; simp; omega
    · rw [outs_no h]; omega
/-- The sides through which one may leave. -/
def outl (W H : Int) (Z Y : Nat → Int) (t fr : Int) : List Int :=
  if outs W H Z Y t fr 4 = [] ∧ 0 ≤ fr ∧ leave W H Z Y t fr = true then [fr] else outs W H Z Y t fr 4
theorem outs_mem {W H : Int} {Z Y : Nat → Int} {t fr : Int} {k : Nat} {s : Int} (h : s ∈ outs W H Z Y t fr k) : 0 ≤ s ∧ s < k ∧ leave W H Z Y t s = true := by
  induction k with
  | zero => simp [outs] at h
  | succ k ih =>
    by_cases c : (k : Int) ≠ fr ∧ leave W H Z Y t k = true
    · rw [outs_yes c.1 c.2, List.mem_append] at h
      rcases h with h | h
      · have := ih h; exact ⟨this.1, by omega, this.2.2⟩
      · simp at h; subst h; exact ⟨by omega, by omega, c.2⟩
    · rw [outs_no c] at h
      have := ih h; exact ⟨this.1, by omega, this.2.2⟩
theorem outl_len (W H : Int) (Z Y : Nat → Int) (t fr : Int) : (outl W H Z Y t fr).length ≤ 4 := by
  unfold outl
  split
  · simp
  · exact outs_len _ _ _ _ _ _ _
theorem outl_mem {W H : Int} {Z Y : Nat → Int} {t fr s : Int} (hf : fr ≤ 3) (h : s ∈ outl W H Z Y t fr) : 0 ≤ s ∧ s ≤ 3 ∧ leave W H Z Y t s = true := by
  unfold outl at h
  split at h
  · rename_i k
    simp at h; subst h; exact ⟨k.2.1, hf, k.2.2⟩
  · have := outs_mem h; exact ⟨this.1, by omega, this.2.2⟩
end Go.Proofs.Ytaepiegbpgkciaa
