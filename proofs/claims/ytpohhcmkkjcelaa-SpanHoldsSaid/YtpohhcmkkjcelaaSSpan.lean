/-
  Spans over a land: which tiles lie between the heads, which spans are right, which first error they have. (Pure.)
-/
import Derived.Test.YtpohhcmkkjcelaaSSlope
namespace Go.Proofs.Ytpohhcmkkjcelaa

/-- A span as a value. -/
abbrev sv (k a b u : Int) : Value := .agg #[.int .i64 k, .int .i64 a, .int .i64 b, .int .i64 u]
/-- In one row; in one column; in one line; by how much the numbers of the line differ. -/
def InRow (W a b : Nat) : Prop := a / W = b / W
def InCol (W a b : Nat) : Prop := a % W = b % W
instance (W a b : Nat) : Decidable (InRow W a b) := inferInstanceAs (Decidable (_ = _))
instance (W a b : Nat) : Decidable (InCol W a b) := inferInstanceAs (Decidable (_ = _))
def stp (W a b : Nat) : Nat := if InRow W a b then 1 else W
theorem stp_row {W a b : Nat} (h : InRow W a b) : stp W a b = 1 := if_pos h
theorem stp_col {W a b : Nat} (h : ¬ InRow W a b) : stp W a b = W := if_neg h
theorem stp_pos {W a b : Nat} (h : 4 ≤ W) : 1 ≤ stp W a b ∧ stp W a b ≤ W := by unfold stp; split <;> omega
def gapN (W a b : Nat) : Nat := if InRow W a b then 1 else if InCol W a b then W else 0
theorem gap_stp {W a b : Nat} (h : InRow W a b ∨ InCol W a b) : gapN W a b = stp W a b := by
  unfold gapN stp; rcases h with h | h
  · rw [if_pos h, if_pos h]
  · split
    · rfl
    · rfl
theorem gap_no {W a b : Nat} (h : ¬ (InRow W a b ∨ InCol W a b)) : gapN W a b = 0 := by
  unfold gapN; rw [if_neg fun k => h (.inl k), if_neg fun k => h (.inr k)]
/-- How many tiles lie between, and the tiles. -/
def cnt (d a b : Nat) : Nat := (b - a - 1) / d
def mids (d a b : Nat) : List Nat := (List.range (cnt d a b)).map fun i => a + (i + 1) * d
theorem mids_length (d a b : Nat) : (mids d a b).length = cnt d a b := by simp [mids]
/-- The i-th of them is ahead of b just if i is below their number. -/
theorem mid_lt {d a b i : Nat} (hd : 1 ≤ d) (h : a < b) : a + (i + 1) * d < b ↔ i < cnt d a b := by
  unfold cnt
  rw [Nat.lt_iff_add_one_le, Nat.lt_iff_add_one_le, Nat.le_div_iff_mul_le (by omega)]
  omega
theorem mem_mids {d a b t : Nat} : t ∈ mids d a b ↔ ∃ i, i < cnt d a b ∧ t = a + (i + 1) * d := by
  unfold mids; simp only [List.mem_map, List.mem_range]; constructor <;> (rintro ⟨i, h, e⟩; exact ⟨i, h, e.symm⟩)
theorem mids_between {d a b t : Nat} (hd : 1 ≤ d) (h : a < b) (ht : t ∈ mids d a b) : a < t ∧ t < b := by
  obtain ⟨i, hi, rfl⟩ := mem_mids.1 ht
  have := (mid_lt hd h).2 hi
  have h2 : 1 * d ≤ (i + 1) * d := Nat.mul_le_mul_right _ (by omega)
  omega
theorem col_diff {W a b : Nat} (h : InCol W a b) : ∃ q, b = a + q * W ∨ a = b + q * W := by
  unfold InCol at h
  have ha := Nat.div_add_mod a W
  have hb := Nat.div_add_mod b W
  rcases Nat.le_total (a / W) (b / W) with hq | hq
  · refine ⟨b / W - a / W, .inl ?_⟩
    have : (b / W - a / W) * W = W * (b / W) - W * (a / W) := by rw [Nat.sub_mul, Nat.mul_comm, Nat.mul_comm (a / W)]
    have h3 : W * (a / W) ≤ W * (b / W) := Nat.mul_le_mul_left _ hq
    omega
  · refine ⟨a / W - b / W, .inr ?_⟩
    have : (a / W - b / W) * W = W * (a / W) - W * (b / W) := by rw [Nat.sub_mul, Nat.mul_comm, Nat.mul_comm (b / W)]
    have h3 : W * (b / W) ≤ W * (a / W) := Nat.mul_le_mul_left _ hq
    omega
/-- The program's length is that number. -/
theorem len_cnt {W a b : Nat} (hW : 4 ≤ W) (h : InRow W a b ∨ InCol W a b) (hab : a < b) : (b - a) / stp W a b = cnt (stp W a b) a b + 1 := by
  unfold cnt
  by_cases hr : InRow W a b
  · rw [stp_row hr]; simp only [Nat.div_one]; omega
  · have hc := h.resolve_left hr
    rw [stp_col hr]
    obtain ⟨q, hq | hq⟩ := col_diff hc
    · have hq0 : 0 < q := by rcases Nat.eq_zero_or_pos q with h | h; · subst h; omega
                             · exact h
      obtain ⟨p, rfl⟩ : ∃ p, q = p + 1 := ⟨q - 1, by omega⟩
      have e1 : b - a = (p + 1) * W := by omega
      have e2 : b - a - 1 = W * p + (W - 1) := by rw [e1, Nat.succ_mul, Nat.mul_comm]; omega
      rw [e2, e1, Nat.mul_div_cancel _ (by omega), Nat.mul_add_div (by omega), Nat.div_eq_of_lt (by omega)]
    · omega
/-- A head is a tile. -/
def Tl (W H : Nat) (t : Int) : Prop := 0 ≤ t ∧ t < ((W * H : Nat) : Int)
def Kd (k u : Int) : Prop := 0 ≤ k ∧ k ≤ 1 ∧ 0 ≤ u ∧ u ≤ 1
def Line (W a b : Nat) : Prop := a < b ∧ (InRow W a b ∨ InCol W a b)
/-- The heads of a tunnel go up towards each other. -/
def Face (W : Nat) (Z : Nat → Int) (a b : Nat) : Prop := if InRow W a b then slope W Z a = 6 ∧ slope W Z b = 9 else slope W Z a = 12 ∧ slope W Z b = 3
/-- A tile between is low, or high, enough. -/
def MidOk (W : Nat) (Z : Nat → Int) (k m : Int) (t : Nat) : Prop := (k = 0 → top W Z t ≤ m) ∧ (k = 1 → m < base W Z t)
structure Lies (W : Nat) (Z : Nat → Int) (k : Int) (a b : Nat) : Prop where
  bases : base W Z a = base W Z b
  sa : slope W Z a < 16
  sb : slope W Z b < 16
  face : k = 1 → Face W Z a b
  mid : ∀ i, i < cnt (stp W a b) a b → MidOk W Z k (base W Z a) (a + (i + 1) * stp W a b)
/-- The first error of a span on a right land. -/
inductive SErr (W H : Nat) (Z : Nat → Int) (k a b u : Int) : Int → Prop where
  | arg : ¬ Kd k u → SErr W H Z k a b u 1
  | none : Kd k u → ¬ (Tl W H a ∧ Tl W H b) → SErr W H Z k a b u 2
  | fit (p q : Nat) : Kd k u → a = p → b = q → p < W * H → q < W * H → ¬ Line W p q → SErr W H Z k a b u 8
  | limit (p q : Nat) : Kd k u → a = p → b = q → p < W * H → q < W * H → Line W p q → ¬ (1 ≤ cnt (stp W p q) p q ∧ cnt (stp W p q) p q ≤ 10) → SErr W H Z k a b u 10
  | slope (p q : Nat) : Kd k u → a = p → b = q → p < W * H → q < W * H → Line W p q → (1 ≤ cnt (stp W p q) p q ∧ cnt (stp W p q) p q ≤ 10) → ¬ Lies W Z k p q → SErr W H Z k a b u 5
  | ok (p q : Nat) : Kd k u → a = p → b = q → p < W * H → q < W * H → Line W p q → (1 ≤ cnt (stp W p q) p q ∧ cnt (stp W p q) p q ≤ 10) → Lies W Z k p q → SErr W H Z k a b u 0
theorem SErr.ex (W H : Nat) (Z : Nat → Int) (k a b u : Int) : ∃ e, SErr W H Z k a b u e := by
  by_cases h1 : Kd k u
  · by_cases h2 : Tl W H a ∧ Tl W H b
    · obtain ⟨⟨a1, a2⟩, b1, b2⟩ := h2
      obtain ⟨p, rfl⟩ := Int.eq_ofNat_of_zero_le a1
      obtain ⟨q, rfl⟩ := Int.eq_ofNat_of_zero_le b1
      by_cases h3 : Line W p q
      · by_cases h4 : 1 ≤ cnt (stp W p q) p q ∧ cnt (stp W p q) p q ≤ 10
        · by_cases h5 : Lies W Z k p q
          · exact ⟨0, .ok p q h1 rfl rfl (by omega) (by omega) h3 h4 h5⟩
          · exact ⟨5, .slope p q h1 rfl rfl (by omega) (by omega) h3 h4 h5⟩
        · exact ⟨10, .limit p q h1 rfl rfl (by omega) (by omega) h3 h4⟩
      · exact ⟨8, .fit p q h1 rfl rfl (by omega) (by omega) h3⟩
    · exact ⟨2, .none h1 h2⟩
  · exact ⟨1, .arg h1⟩
/-- A right span. -/
structure Rt (W H : Nat) (Z : Nat → Int) (k : Int) (a b : Nat) (u : Int) : Prop where
  kd : Kd k u
  ha : a < W * H
  hb : b < W * H
  line : Line W a b
  len : 1 ≤ cnt (stp W a b) a b ∧ cnt (stp W a b) a b ≤ 10
  lies : Lies W Z k a b
theorem SErr.right {W H : Nat} {Z : Nat → Int} {k a b u : Int} (h : SErr W H Z k a b u 0) : ∃ p q : Nat, a = p ∧ b = q ∧ Rt W H Z k p q u := by
  cases h with
  | ok p q h1 e1 e2 h2 h3 h4 h5 h6 => exact ⟨p, q, e1, e2, h1, h2, h3, h4, h5, h6⟩
theorem Rt.err {W H : Nat} {Z : Nat → Int} {k : Int} {p q : Nat} {u : Int} (h : Rt W H Z k p q u) : SErr W H Z k p q u 0 := .ok p q h.kd rfl rfl h.ha h.hb h.line h.len h.lies
theorem SErr.one0 {W H : Nat} {Z : Nat → Int} {k a b u e : Int} (h : SErr W H Z k a b u e) (h0 : SErr W H Z k a b u 0) : e = 0 := by
  obtain ⟨p, q, rfl, rfl, hr⟩ := h0.right
  cases h with
  | arg h => exact absurd hr.kd h
  | none _ h => exact absurd ⟨⟨by omega, by have := hr.ha; omega⟩, by omega, by have := hr.hb; omega⟩ h
  | fit p' q' _ e1 e2 _ _ h => obtain rfl : p = p' := by omega
                               obtain rfl : q = q' := by omega
                               exact absurd hr.line h
  | limit p' q' _ e1 e2 _ _ _ h => obtain rfl : p = p' := by omega
                                   obtain rfl : q = q' := by omega
                                   exact absurd hr.len h
  | slope p' q' _ e1 e2 _ _ _ _ h => obtain rfl : p = p' := by omega
                                     obtain rfl : q = q' := by omega
                                     exact absurd hr.lies h
  | ok => rfl
/-- A tile between two heads of a land is a tile. -/
theorem mid_tile {W H a b : Nat} (hW : 4 ≤ W) (hb : b < W * H) (hab : a < b) {i : Nat} (hi : i < cnt (stp W a b) a b) : a + (i + 1) * stp W a b < W * H :=
  Nat.lt_trans ((mid_lt (stp_pos hW).1 hab).2 hi) hb
/-- What a span costs. -/
def prc (k : Int) (n : Nat) : Int := (1 + k) * 1000 * n + n * n * 1000 / 4

/-! ### The greatest of a tile's heights, by its slope -/
theorem slR_pos (p : Nat → Bool) : (0 ≤ slR p 4 ∧ slR p 4 ≤ 15) ∧ (0 < slR p 4 ↔ (p 0 || p 1 || p 2 || p 3) = true) := by
  have key : ∀ a b c d : Bool,
      (let r1 : Int := if a then 0 + 1 else 0
       let r2 := if b then r1 + 2 else r1
       let r3 := if c then r2 + 4 else r2
       let r4 := if d then r3 + 8 else r3
       (0 ≤ r4 ∧ r4 ≤ 15) ∧ (0 < r4 ↔ (a || b || c || d) = true)) := by decide +kernel
  exact key (p 0) (p 1) (p 2) (p 3)
theorem slope_facts (W : Nat) (Z : Nat → Int) (u : Nat) :
    (0 ≤ slope W Z u ∧ slope W Z u ≤ 31) ∧ (16 ≤ slope W Z u ↔ base W Z u + 1 < top W Z u) ∧ (0 < slope W Z u ↔ base W Z u < top W Z u) := by
  unfold slope
  rw [sl_same]
  have h := slR_pos (fun k => decide (base W Z u < at4 (Z (nw W u)) (Z (nw W u + 1)) (Z (nw W u + W + 2)) (Z (nw W u + W + 1)) k))
  simp only [at4, Bool.or_eq_true, decide_eq_true_eq] at h ⊢
  have ht : top W Z u = mx4 (Z (nw W u)) (Z (nw W u + 1)) (Z (nw W u + W + 2)) (Z (nw W u + W + 1)) := rfl
  unfold mx4 at ht
  rw [ht]
  generalize slR _ 4 = r at h ⊢
  obtain ⟨⟨h1, h2⟩, h3⟩ := h
  generalize base W Z u = m at h3 ⊢
  generalize Z (nw W u) = a at h3 ⊢
  generalize Z (nw W u + 1) = b at h3 ⊢
  generalize Z (nw W u + W + 2) = c at h3 ⊢
  generalize Z (nw W u + W + 1) = d at h3 ⊢
  split
  · rename_i hh
    refine ⟨by omega, ?_, ?_⟩ <;> constructor <;> intro _ <;> omega
  · rename_i hh
    refine ⟨by omega, ?_, ?_⟩
    · constructor <;> intro _ <;> omega
    · rw [h3]; constructor <;> intro _ <;> omega
/-- The program's top. -/
def topP (s b : Int) : Int := if 16 ≤ s then b + 2 else if 0 < s then b + 1 else b
theorem tile_split {W H u : Nat} (hW : 4 ≤ W) (hu : u < W * H) : u % W + 1 < W + 1 ∧ u / W + 1 < H + 1 ∧ nw W u = u / W * (W + 1) + u % W := by
  have := Nat.mod_lt u (show 0 < W by omega)
  have := Nat.div_lt_of_lt_mul hu
  exact ⟨by omega, by omega, rfl⟩
theorem top_two {W H n : Nat} {Z : Nat → Int} (hg : Good W H n Z) {u : Nat} (hu : u < W * H) : base W Z u ≤ top W Z u ∧ top W Z u ≤ base W Z u + 2 := by
  obtain ⟨h1, h2, h3⟩ := tile_split hg.side.1 hu
  have e1 := dist_le.1 (hg.east (v := u / W) (u := u % W) h1 (by omega))
  have e2 := dist_le.1 (hg.east (v := u / W + 1) (u := u % W) h1 (by omega))
  have e3 := dist_le.1 (hg.south (v := u / W) (u := u % W) (by omega) h2)
  have e4 := dist_le.1 (hg.south (v := u / W) (u := u % W + 1) h1 h2)
  have q : (u / W + 1) * (W + 1) = u / W * (W + 1) + (W + 1) := Nat.succ_mul _ _
  rw [q] at e2 e3 e4
  unfold base top mn4 mx4
  rw [h3]
  rw [show u / W * (W + 1) + (W + 1) + u % W = u / W * (W + 1) + u % W + W + 1 from by omega] at e2 e3
  rw [show u / W * (W + 1) + u % W + W + 1 + 1 = u / W * (W + 1) + u % W + W + 2 from by omega] at e2
  rw [show u / W * (W + 1) + (W + 1) + (u % W + 1) = u / W * (W + 1) + u % W + W + 2 from by omega, show u / W * (W + 1) + (u % W + 1) = u / W * (W + 1) + u % W + 1 from by omega] at e4
  omega
theorem topP_top {W H n : Nat} {Z : Nat → Int} (hg : Good W H n Z) {u : Nat} (hu : u < W * H) : topP (slope W Z u) (base W Z u) = top W Z u := by
  obtain ⟨h1, h2⟩ := top_two hg hu
  obtain ⟨_, h3, h4⟩ := slope_facts W Z u
  unfold topP
  split
  · omega
  · split <;> omega
theorem base_high {W H n : Nat} {Z : Nat → Int} (hg : Good W H n Z) {u : Nat} (hu : u < W * H) : 0 ≤ base W Z u ∧ base W Z u ≤ 15 := by
  have hp : nw W u + W + 2 < n := by rw [hg.len]; exact nw_lt hu
  have h0 := hg.high (nw W u) (by omega)
  have h1 := hg.high (nw W u + 1) (by omega)
  have h2 := hg.high (nw W u + W + 2) (by omega)
  have h3 := hg.high (nw W u + W + 1) (by omega)
  unfold base mn4
  omega
end Go.Proofs.Ytpohhcmkkjcelaa
