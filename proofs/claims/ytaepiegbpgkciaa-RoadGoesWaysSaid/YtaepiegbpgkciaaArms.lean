/-
  What paving and taking away does to arms, in plain numbers: the arms of a that z has (b) or lacks, side by side.
-/
import Derived.Test.YtaepiegbpgkciaaWalkJoin
import Derived.Test.YtaepiegbpgkciaaPart
namespace Go.Proofs.Ytaepiegbpgkciaa
open Go.RowKit

/-- Of the first k sides those that a has and z has (b = true) or lacks (b = false): their worth, and how many. -/
def sel (b : Bool) (z a : Int) : Nat → Int
  | 0 => 0
  | k + 1 => sel b z a k + if has a k = true ∧ has z k = b then 2 ^ k else 0
def cnt (b : Bool) (z a : Int) : Nat → Int
  | 0 => 0
  | k + 1 => cnt b z a k + if has a k = true ∧ has z k = b then 1 else 0
theorem sel_succ (b : Bool) (z a : Int) (k : Nat) : sel b z a (k + 1) = sel b z a k + if has a k = true ∧ has z k = b then 2 ^ k else 0 := rfl
theorem cnt_succ (b : Bool) (z a : Int) (k : Nat) : cnt b z a (k + 1) = cnt b z a k + if has a k = true ∧ has z k = b then 1 else 0 := rfl
theorem sel_yes {b : Bool} {z a : Int} {k : Nat} (h : has a k = true ∧ has z k = b) : sel b z a (k + 1) = sel b z a k + 2 ^ k ∧ cnt b z a (k + 1) = cnt b z a k + 1 := by
  rw [sel_succ, cnt_succ, if_pos h, if_pos h]; exact ⟨rfl, rfl⟩
theorem sel_no {b : Bool} {z a : Int} {k : Nat} (h : ¬ (has a k = true ∧ has z k = b)) : sel b z a (k + 1) = sel b z a k ∧ cnt b z a (k + 1) = cnt b z a k := by
  rw [sel_succ, cnt_succ, if_neg h, if_neg h, Int.add_zero, Int.add_zero]; exact ⟨rfl, rfl⟩
theorem sel_bd {b : Bool} {z a : Int} (hz : 0 ≤ z ∧ z ≤ 15) (ha : 0 ≤ a ∧ a ≤ 15) {k : Nat} (hk : k ≤ 4) : 0 ≤ sel b z a k ∧ sel b z a k ≤ 15 ∧ 0 ≤ cnt b z a k ∧ cnt b z a k ≤ 4 ∧ (b = true → 0 ≤ z - sel b z a k) ∧ (b = false → z + sel b z a k ≤ 15) ∧ (cnt b z a k = 0 ↔ sel b z a k = 0) := by
  obtain ⟨p, rfl⟩ := fin16 hz
  obtain ⟨q, rfl⟩ := fin16 ha
  obtain rfl | rfl | rfl | rfl | rfl : k = 0 ∨ k = 1 ∨ k = 2 ∨ k = 3 ∨ k = 4 := by omega
  all_goals
    clear hz ha hk
    cases b
    all_goals
      revert p q
      decide +kernel
theorem or_sel {z a : Int} (hz : 0 ≤ z ∧ z ≤ 15) (ha : 0 ≤ a ∧ a ≤ 15) : bits .or .i64 z a = z + sel false z a 4 ∧ pop (bits .andNot .i64 a z) = cnt false z a 4 ∧ 0 ≤ bits .andNot .i64 a z ∧ bits .andNot .i64 a z ≤ 15 := by
  obtain ⟨p, rfl⟩ := fin16 hz
  obtain ⟨q, rfl⟩ := fin16 ha
  clear hz ha
  revert p q
  decide +kernel
theorem clr_sel {z a : Int} (hz : 0 ≤ z ∧ z ≤ 15) (ha : 0 ≤ a ∧ a ≤ 15) : bits .andNot .i64 z a = z - sel true z a 4 ∧ pop (bits .and .i64 a z) = cnt true z a 4 ∧ 0 ≤ bits .and .i64 a z ∧ bits .and .i64 a z ≤ 15 := by
  obtain ⟨p, rfl⟩ := fin16 hz
  obtain ⟨q, rfl⟩ := fin16 ha
  clear hz ha
  revert p q
  decide +kernel
/-- What is taken away of what was added. -/
theorem undo_sel {z a : Int} (hz : 0 ≤ z ∧ z ≤ 15) (ha : 0 ≤ a ∧ a ≤ 15) :
    sel true (z + sel false z a 4) (bits .andNot .i64 a z) 4 = sel false z a 4 ∧ cnt true (z + sel false z a 4) (bits .andNot .i64 a z) 4 = cnt false z a 4 := by
  obtain ⟨p, rfl⟩ := fin16 hz
  obtain ⟨q, rfl⟩ := fin16 ha
  clear hz ha
  revert p q
  decide +kernel
theorem pop_bd (z : Int) : 0 ≤ pop z ∧ pop z ≤ 4 := by unfold pop; omega
/-- The arms behind the first k sides; the ways. -/
def arm (b : Bool) (z a : Int) (k : Nat) : Int := if b = true then z - sel b z a k else z + sel b z a k
def armZ (b : Bool) (Z : Nat → Int) (t : Nat) (a : Int) (k : Nat) : Nat → Int := upd Z t (arm b (Z t) a k)
def armY (b : Bool) (Z Y : Nat → Int) (t : Nat) (a : Int) (k : Nat) : Nat → Int := if sel b (Z t) a k = 0 then Y else upd Y t 0
theorem upd_self {α : Type} (F : Nat → α) (t : Nat) : upd F t (F t) = F := by
  funext i; unfold upd; split
  · rename_i h; rw [h]
  · rfl
theorem upd_upd {α : Type} (F : Nat → α) (t : Nat) (x y : α) : upd (upd F t x) t y = upd F t y := by
  funext i; unfold upd; split <;> rfl
theorem armZ_zero (b : Bool) (Z : Nat → Int) (t : Nat) (a : Int) : armZ b Z t a 0 = Z := by
  have : arm b (Z t) a 0 = Z t := by unfold arm sel; cases b <;> simp
  unfold armZ; rw [this, upd_self]
theorem armY_zero (b : Bool) (Z Y : Nat → Int) (t : Nat) (a : Int) : armY b Z Y t a 0 = Y := by unfold armY; rw [if_pos (by unfold sel; rfl)]
theorem arm_at (b : Bool) (Z : Nat → Int) (t : Nat) (a : Int) (k : Nat) : armZ b Z t a k t = arm b (Z t) a k := upd_same _ _ _
theorem pow2 (k : Nat) : (0 : Int) < 2 ^ k := by
  have := Nat.two_pow_pos k
  have e : ((2 ^ k : Nat) : Int) = (2 : Int) ^ k := by push_cast; rfl
  omega
theorem arm_no {b : Bool} {Z Y : Nat → Int} {t : Nat} {a : Int} {k : Nat} (h : ¬ (has a k = true ∧ has (Z t) k = b)) : armZ b Z t a (k + 1) = armZ b Z t a k ∧ armY b Z Y t a (k + 1) = armY b Z Y t a k := by
  unfold armZ armY arm; rw [(sel_no h).1]; exact ⟨rfl, rfl⟩
theorem arm_yes {b : Bool} {Z Y : Nat → Int} {t : Nat} {a : Int} {k : Nat} (h : has a k = true ∧ has (Z t) k = b) (h0 : 0 ≤ sel b (Z t) a k) :
    armZ b Z t a (k + 1) = upd (armZ b Z t a k) t (if b = true then arm b (Z t) a k - 2 ^ k else arm b (Z t) a k + 2 ^ k) ∧ armY b Z Y t a (k + 1) = upd (armY b Z Y t a k) t 0 := by
  have hs := (sel_yes h).1
  have hp := pow2 k
  refine ⟨?_, ?_⟩
  · unfold armZ
    rw [upd_upd]
    congr 1
    unfold arm
    rw [hs]
    cases b <;> simp <;> omega
  · unfold armY
    rw [hs, if_neg (by omega)]
    split
    · rfl
    · rw [upd_upd]
end Go.Proofs.Ytaepiegbpgkciaa
