/-
  The memory of a law's rails, far, and the walk of the law on which rails are right.
-/
import Derived.Test.YtlpmahdplilbiaaDoorWalkBack
import Derived.Test.YtlpmahdplilbiaaDoorWalkRVal
import Derived.Deep.RegionHeld3
namespace Go.Proofs.YtlpmahdplilbiaaDoor
open Go.RowKit

/-- The box of a law's rails, behind whatever calls. -/
structure RB (Wd Hd : Int) (ao : Option Addr) (n cap : Nat) (Z : Nat → Int) (bo : Option Addr) (m bcap : Nat) (B : Nat → Bool) (w wr : World) : Prop where
  below : Below w.heap.size w wr
  size : w.heap.size < wr.heap.size
  c0 : wr.cell? ⟨w.heap.size, 0, none⟩ = some (.int .i64 Wd)
  c1 : wr.cell? ⟨w.heap.size, 1, none⟩ = some (.int .i64 Hd)
  c2 : wr.cell? ⟨w.heap.size, 2, none⟩ = some (.slice ao n cap)
  c3 : wr.cell? ⟨w.heap.size, 3, none⟩ = some (.slice bo m bcap)
  ints : Ints wr ao n Z
  bools : Bools wr bo m B
  tab : Tab wr
section
variable {Wd Hd : Int} {ao bo : Option Addr} {n cap m bcap : Nat} {Z : Nat → Int} {B : Nat → Bool} {w wr w' : World}
theorem RB.stays (h : RB Wd Hd ao n cap Z bo m bcap B w wr) (k : Below wr.heap.size wr w') : RB Wd Hd ao n cap Z bo m bcap B w w' :=
  ⟨step h.below k, Nat.lt_of_lt_of_le h.size k.size, (k.cell (p := ⟨w.heap.size, 0, none⟩) h.size).trans h.c0, (k.cell (p := ⟨w.heap.size, 1, none⟩) h.size).trans h.c1, (k.cell (p := ⟨w.heap.size, 2, none⟩) h.size).trans h.c2,
    (k.cell (p := ⟨w.heap.size, 3, none⟩) h.size).trans h.c3, h.ints.stays k, h.bools.stays k, h.tab.stays k⟩
theorem rb_start (hT : Tab w) (hI : Ints w ao n Z) (hB : Bools w bo m B) : RB Wd Hd ao n cap Z bo m bcap B w (w.alloc (.cells #[.int .i64 Wd, .int .i64 Hd, .slice ao n cap, .slice bo m bcap] 25)) :=
  ⟨Joins.below_alloc1 _ _, by simp, by simp, by simp, by simp, by simp, hI.stays (Joins.below_alloc1 _ _), hB.stays (Joins.below_alloc1 _ _), hT.stays (Joins.below_alloc1 _ _)⟩
theorem rb_keep {a b : World} {X : Nat} {p : Prop} (hX : X = w.heap.size) (h : RB Wd Hd ao n cap Z bo m bcap B w a ∧ p) (hb : Below a.heap.size a b) :
    RB Wd Hd ao n cap Z bo m bcap B w b ∧ b.cell? ⟨X, 0, none⟩ = some (.int .i64 Wd) ∧ b.cell? ⟨X, 1, none⟩ = some (.int .i64 Hd) ∧ b.cell? ⟨X, 2, none⟩ = some (.slice ao n cap) ∧ b.cell? ⟨X, 3, none⟩ = some (.slice bo m bcap) := by
  subst hX
  have := h.1.stays hb
  exact ⟨this, this.c0, this.c1, this.c2, this.c3⟩
theorem rb_ints {p : Prop} (h : RB Wd Hd ao n cap Z bo m bcap B w wr ∧ p) : Ints wr ao n Z := h.1.ints
theorem rb_bools {p : Prop} (h : RB Wd Hd ao n cap Z bo m bcap B w wr ∧ p) : Bools wr bo m B := h.1.bools
theorem rb_tab {p : Prop} (h : RB Wd Hd ao n cap Z bo m bcap B w wr ∧ p) : Tab wr := h.1.tab
theorem rb_below {p : Prop} (h : RB Wd Hd ao n cap Z bo m bcap B w wr ∧ p) : Below w.heap.size w wr := h.1.below
end

def Far (n m : Nat) : Prop := 3000 < n ∨ 3000 < m
set_option maxHeartbeats 800000 in
theorem far_yes (Wd Hd : Int) (ao : Option Addr) (n cap : Nat) (bo : Option Addr) (m bcap : Nat) (hn : n ≤ 9223372036854775807) (hm : m ≤ 9223372036854775807) (h : Far n m) (w : World) :
    Calls Tryd.prog 15 #[rv Wd Hd (.slice ao n cap) (.slice bo m bcap)] w fun r w' => r = .returned (.bool true) ∧ Below w.heap.size w w' := by
  have HW := hid (Joins.below_alloc1 w (.cells #[.int .i64 Wd, .int .i64 Hd, .slice ao n cap, .slice bo m bcap] 25))
  by_cases h1 : 3000 < n
  · clear h
    go_enter Tryd.func15, Tryd.ntmps15
    go_wp2_with fail
    go_ret
    exact ⟨ret_bool (by simp <;> omega), HW.out⟩
  · have h2 : 3000 < m := h.resolve_left h1
    clear h
    go_enter Tryd.func15, Tryd.ntmps15
    go_wp2_with fail
    go_ret
    exact ⟨ret_bool (by simp <;> omega), HW.out⟩
set_option maxHeartbeats 800000 in
theorem far_no (Wd Hd : Int) (ao : Option Addr) (n cap : Nat) (bo : Option Addr) (m bcap : Nat) (h : n ≤ 3000 ∧ m ≤ 3000) (w : World) :
    Calls Tryd.prog 15 #[rv Wd Hd (.slice ao n cap) (.slice bo m bcap)] w fun r w' => r = .returned (.bool false) ∧ Below w.heap.size w w' := by
  have HW := hid (Joins.below_alloc1 w (.cells #[.int .i64 Wd, .int .i64 Hd, .slice ao n cap, .slice bo m bcap] 25))
  obtain ⟨h1, h2⟩ := h
  go_enter Tryd.func15, Tryd.ntmps15
  go_wp2_with fail
  go_ret
  exact ⟨ret_bool (by simp <;> omega), HW.out⟩

set_option maxHeartbeats 3200000 in
theorem walk_validates (Wd Hd : Int) (ao : Option Addr) (n cap : Nat) (Z : Nat → Int) (bo : Option Addr) (m bcap : Nat) (B : Nat → Bool) (hn : n ≤ 9223372036854775807) (hm : m ≤ 9223372036854775807) (w : World) (hT : Tab w) (hI : Ints w ao n Z) (hB : Bools w bo m B) :
    Calls Tryd.prog 3 #[rv Wd Hd (.slice ao n cap) (.slice bo m bcap)] w fun r w' => r = .returned (.bool true) ∧ Below w.heap.size w w' := by
  obtain ⟨e, he⟩ := VErr.ex Wd Hd n m Z B
  have HE := hid he
  have HS := hid (And.intro (rb_start (Wd := Wd) (Hd := Hd) (cap := cap) (bcap := bcap) hT hI hB) trivial)
  obtain ⟨X, hX⟩ : ∃ X, X = w.heap.size := ⟨_, rfl⟩
  have HX := hid hX
  clear hT hI hB he
  by_cases hf : Far n m
  · have HF := hid hf
    clear hf
    go_enter Tryd.func3, Tryd.ntmps3
    go_wp2_with fail
    simp only [← hX]
    clear hX
    refine wp_region_held_drew (S := (fun w' => RB Wd Hd ao n cap Z bo m bcap B w w' ∧ w'.cell? ⟨X, 0, none⟩ = some (.int .i64 Wd) ∧ w'.cell? ⟨X, 1, none⟩ = some (.int .i64 Hd) ∧ w'.cell? ⟨X, 2, none⟩ = some (.slice ao n cap) ∧ w'.cell? ⟨X, 3, none⟩ = some (.slice bo m bcap))) (by kernel_rfl) (rb_keep HX.out HS.out ((Below.refl _ _).drew)) (fun hHeld => ?_)
    refine wpAnyH_take (i := 0) (oi := { dst := some 3, op := Op.load 25 (Operand.tmp 1), type := 25, pos := "law.go:27", after := #[], guard := none }) (v := ?_) rfl (by kernel_rfl) (by kernel_rfl) (by kernel_rfl) (fun _ _ _ h => h) (Or.inl ⟨by rfl, ?_⟩) (by assumption) ?_
    rotate_left
    · intro w hSw; (try dsimp only at hSw); go_simp; try (with_reducible rfl)
    try simp only [Act.put, List.setIfInBounds_toArray, List.set_cons_zero, List.set_cons_succ]
    refine wpAnyH_ready (rs := [1]) (by kernel_rfl) (by simp) ?_
    refine AllReadyH.cons (o := { dst := some 4, op := Op.call { callee := Callee.value (Operand.func 15), args := #[Operand.tmp 3], argTypes := #[25] }, type := 4, pos := "law.go:27", after := #[{ on := 0, ground := Ground.data }], guard := none }) rfl (fun K hK => ?_) AllReadyH.nil
    go_simp
    refine (far_yes Wd Hd ao n cap bo m bcap (by omega) (by omega) HF.out _).mono ?_
    rintro r w5 ⟨rfl, hb⟩
    try go_wp2_with fail
    refine hK.out _ _ (rb_keep HX.out (by assumption) hb) (fun hHeld2 => ?_)
    clear hK K
    try simp only [Act.put, List.setIfInBounds_toArray, List.set_cons_zero, List.set_cons_succ]
    refine wpAnyH_take (i := 2) (oi := { dst := some 5, op := Op.move (Operand.tmp 4), type := 4, pos := "law.go:27", after := #[{ on := 1, ground := Ground.data }, { on := 1, ground := Ground.chain }], guard := none }) (v := ?_) rfl (by kernel_rfl) (by kernel_rfl) (by kernel_rfl) (fun _ _ _ h => h) (Or.inl ⟨by rfl, ?_⟩) (by assumption) ?_
    rotate_left
    · intro w hSw; (try dsimp only at hSw); go_simp; try (with_reducible rfl)
    try simp only [Act.put, List.setIfInBounds_toArray, List.set_cons_zero, List.set_cons_succ]
    refine wpAnyH_ready (rs := [3]) (by kernel_rfl) (by simp) ?_
    refine AllReadyH.cons (o := { dst := some 6, op := Op.call { callee := Callee.value (Operand.func 16), args := #[], argTypes := #[] }, type := 4, pos := "law.go:27", after := #[{ on := 2, ground := Ground.chain }, { on := 2, ground := Ground.guard }], guard := some (2, true) }) rfl (fun K hK => ?_) AllReadyH.nil
    go_simp
    refine (known_any _ (rb_tab (by assumption))).mono ?_
    rintro r w8 ⟨rfl, hb⟩
    try go_wp2_with fail
    refine hK.out _ _ (rb_keep HX.out (by assumption) hb) (fun hHeld3 => ?_)
    clear hK K
    try simp only [Act.put, List.setIfInBounds_toArray, List.set_cons_zero, List.set_cons_succ]
    refine wpAnyH_take (i := 4) (oi := { dst := some 7, op := Op.pick (Operand.tmp 5) (Operand.tmp 6) (Operand.const (Value.bool false)), type := 4, pos := "law.go:27", after := #[{ on := 2, ground := Ground.data }, { on := 3, ground := Ground.data }], guard := none }) (v := ?_) rfl (by kernel_rfl) (by kernel_rfl) (by kernel_rfl) (fun _ _ _ h => h) (Or.inl ⟨by rfl, ?_⟩) (by assumption) ?_
    rotate_left
    · intro w hSw; (try dsimp only at hSw); go_simp; try (with_reducible rfl)
    try simp only [Act.put, List.setIfInBounds_toArray, List.set_cons_zero, List.set_cons_succ]
    refine wpAnyH_take (i := 5) (oi := { dst := some 8, op := Op.move (Operand.tmp 7), type := 4, pos := "law.go:27", after := #[{ on := 4, ground := Ground.data }, { on := 3, ground := Ground.chain }], guard := none }) (v := ?_) rfl (by kernel_rfl) (by kernel_rfl) (by kernel_rfl) (fun _ _ _ h => h) (Or.inl ⟨by rfl, ?_⟩) (by assumption) ?_
    rotate_left
    · intro w hSw; (try dsimp only at hSw); go_simp; try (with_reducible rfl)
    try simp only [Act.put, List.setIfInBounds_toArray, List.set_cons_zero, List.set_cons_succ]
    refine wpAnyH_take (i := 6) (oi := { dst := some 9, op := Op.load 25 (Operand.tmp 1), type := 25, pos := "law.go:27", after := #[{ on := 5, ground := Ground.guard }], guard := some (5, false) }) (v := undef) rfl (by kernel_rfl) (by kernel_rfl) (by kernel_rfl) (fun _ _ _ h => h) (Or.inr ⟨by rfl, rfl⟩) (by assumption) ?_
    try simp only [Act.put, List.setIfInBounds_toArray, List.set_cons_zero, List.set_cons_succ]
    refine wpAnyH_take (i := 7) (oi := { dst := some 10, op := Op.call { callee := Callee.value (Operand.func 17), args := #[Operand.tmp 9], argTypes := #[25] }, type := 28, pos := "law.go:27", after := #[{ on := 6, ground := Ground.data }, { on := 5, ground := Ground.chain }, { on := 5, ground := Ground.guard }], guard := some (5, false) }) (v := undef) rfl (by kernel_rfl) (by kernel_rfl) (by kernel_rfl) (fun _ _ _ h => h) (Or.inr ⟨by rfl, rfl⟩) (by assumption) ?_
    try simp only [Act.put, List.setIfInBounds_toArray, List.set_cons_zero, List.set_cons_succ]
    refine wpAnyH_take (i := 8) (oi := { dst := some 11, op := Op.load 25 (Operand.tmp 1), type := 25, pos := "law.go:27", after := #[{ on := 5, ground := Ground.guard }], guard := some (5, false) }) (v := undef) rfl (by kernel_rfl) (by kernel_rfl) (by kernel_rfl) (fun _ _ _ h => h) (Or.inr ⟨by rfl, rfl⟩) (by assumption) ?_
    try simp only [Act.put, List.setIfInBounds_toArray, List.set_cons_zero, List.set_cons_succ]
    refine wpAnyH_take (i := 9) (oi := { dst := some 12, op := Op.call { callee := Callee.value (Operand.func 18), args := #[Operand.tmp 11], argTypes := #[25] }, type := 28, pos := "law.go:27", after := #[{ on := 8, ground := Ground.data }, { on := 7, ground := Ground.chain }, { on := 5, ground := Ground.guard }], guard := some (5, false) }) (v := undef) rfl (by kernel_rfl) (by kernel_rfl) (by kernel_rfl) (fun _ _ _ h => h) (Or.inr ⟨by rfl, rfl⟩) (by assumption) ?_
    try simp only [Act.put, List.setIfInBounds_toArray, List.set_cons_zero, List.set_cons_succ]
    refine wpAnyH_take (i := 10) (oi := { dst := some 13, op := Op.binOp BinOp.eql 28 (Operand.tmp 10) (Operand.tmp 12) 28, type := 4, pos := "law.go:27", after := #[{ on := 7, ground := Ground.data }, { on := 9, ground := Ground.data }, { on := 5, ground := Ground.guard }], guard := some (5, false) }) (v := undef) rfl (by kernel_rfl) (by kernel_rfl) (by kernel_rfl) (fun _ _ _ h => h) (Or.inr ⟨by rfl, rfl⟩) (by assumption) ?_
    try simp only [Act.put, List.setIfInBounds_toArray, List.set_cons_zero, List.set_cons_succ]
    refine wpAnyH_take (i := 11) (oi := { dst := some 14, op := Op.move (Operand.tmp 13), type := 4, pos := "law.go:27", after := #[{ on := 10, ground := Ground.data }, { on := 9, ground := Ground.chain }, { on := 5, ground := Ground.guard }], guard := some (5, false) }) (v := undef) rfl (by kernel_rfl) (by kernel_rfl) (by kernel_rfl) (fun _ _ _ h => h) (Or.inr ⟨by rfl, rfl⟩) (by assumption) ?_
    try simp only [Act.put, List.setIfInBounds_toArray, List.set_cons_zero, List.set_cons_succ]
    refine wpAnyH_take (i := 12) (oi := { dst := some 15, op := Op.call { callee := Callee.value (Operand.func 16), args := #[], argTypes := #[] }, type := 4, pos := "law.go:27", after := #[{ on := 11, ground := Ground.chain }, { on := 11, ground := Ground.guard }], guard := some (11, true) }) (v := undef) rfl (by kernel_rfl) (by kernel_rfl) (by kernel_rfl) (fun _ _ _ h => h) (Or.inr ⟨by rfl, rfl⟩) (by assumption) ?_
    try simp only [Act.put, List.setIfInBounds_toArray, List.set_cons_zero, List.set_cons_succ]
    refine wpAnyH_take (i := 13) (oi := { dst := some 16, op := Op.pick (Operand.tmp 14) (Operand.tmp 15) (Operand.const (Value.bool false)), type := 4, pos := "law.go:27", after := #[{ on := 11, ground := Ground.data }, { on := 12, ground := Ground.data }, { on := 5, ground := Ground.guard }], guard := some (5, false) }) (v := undef) rfl (by kernel_rfl) (by kernel_rfl) (by kernel_rfl) (fun _ _ _ h => h) (Or.inr ⟨by rfl, rfl⟩) (by assumption) ?_
    try simp only [Act.put, List.setIfInBounds_toArray, List.set_cons_zero, List.set_cons_succ]
    refine wpAnyH_take (i := 14) (oi := { dst := some 17, op := Op.pick (Operand.tmp 8) (Operand.const (Value.bool true)) (Operand.tmp 16), type := 4, pos := "law.go:27", after := #[{ on := 5, ground := Ground.data }, { on := 13, ground := Ground.data }], guard := none }) (v := ?_) rfl (by kernel_rfl) (by kernel_rfl) (by kernel_rfl) (fun _ _ _ h => h) (Or.inl ⟨by rfl, ?_⟩) (by assumption) ?_
    rotate_left
    · intro w hSw; (try dsimp only at hSw); go_simp; try (with_reducible rfl)
    try simp only [Act.put, List.setIfInBounds_toArray, List.set_cons_zero, List.set_cons_succ]
    refine wpAnyH_take (i := 15) (oi := { dst := some 2, op := Op.assign (Operand.tmp 17), type := 4, pos := "law.go:27", after := #[{ on := 14, ground := Ground.data }, { on := 12, ground := Ground.chain }, { on := 0, ground := Ground.phase }, { on := 1, ground := Ground.phase }, { on := 2, ground := Ground.phase }, { on := 3, ground := Ground.phase }, { on := 4, ground := Ground.phase }, { on := 5, ground := Ground.phase }, { on := 6, ground := Ground.phase }, { on := 7, ground := Ground.phase }, { on := 8, ground := Ground.phase }, { on := 9, ground := Ground.phase }, { on := 10, ground := Ground.phase }, { on := 11, ground := Ground.phase }, { on := 12, ground := Ground.phase }, { on := 13, ground := Ground.phase }, { on := 14, ground := Ground.phase }], guard := none }) (v := ?_) rfl (by kernel_rfl) (by kernel_rfl) (by kernel_rfl) (fun _ _ _ h => h) (Or.inl ⟨by rfl, ?_⟩) (by assumption) ?_
    rotate_left
    · intro w hSw; (try dsimp only at hSw); go_simp; try (with_reducible rfl)
    try simp only [Act.put, List.setIfInBounds_toArray, List.set_cons_zero, List.set_cons_succ]
    refine wpAnyH_done (by kernel_rfl) ?_ _
    go_wp2_with fail
    go_ret
    exact ⟨rfl, rb_below (by assumption)⟩
  · have HF : Hid (n ≤ 3000 ∧ m ≤ 3000) := hid (by unfold Far at hf; omega)
    clear hf
    go_enter Tryd.func3, Tryd.ntmps3
    go_wp2_with fail
    simp only [← hX]
    clear hX
    refine wp_region_held_drew (S := (fun w' => RB Wd Hd ao n cap Z bo m bcap B w w' ∧ w'.cell? ⟨X, 0, none⟩ = some (.int .i64 Wd) ∧ w'.cell? ⟨X, 1, none⟩ = some (.int .i64 Hd) ∧ w'.cell? ⟨X, 2, none⟩ = some (.slice ao n cap) ∧ w'.cell? ⟨X, 3, none⟩ = some (.slice bo m bcap))) (by kernel_rfl) (rb_keep HX.out HS.out ((Below.refl _ _).drew)) (fun hHeld => ?_)
    refine wpAnyH_take (i := 0) (oi := { dst := some 3, op := Op.load 25 (Operand.tmp 1), type := 25, pos := "law.go:27", after := #[], guard := none }) (v := ?_) rfl (by kernel_rfl) (by kernel_rfl) (by kernel_rfl) (fun _ _ _ h => h) (Or.inl ⟨by rfl, ?_⟩) (by assumption) ?_
    rotate_left
    · intro w hSw; (try dsimp only at hSw); go_simp; try (with_reducible rfl)
    try simp only [Act.put, List.setIfInBounds_toArray, List.set_cons_zero, List.set_cons_succ]
    refine wpAnyH_ready (rs := [1]) (by kernel_rfl) (by simp) ?_
    refine AllReadyH.cons (o := { dst := some 4, op := Op.call { callee := Callee.value (Operand.func 15), args := #[Operand.tmp 3], argTypes := #[25] }, type := 4, pos := "law.go:27", after := #[{ on := 0, ground := Ground.data }], guard := none }) rfl (fun K hK => ?_) AllReadyH.nil
    go_simp
    refine (far_no Wd Hd ao n cap bo m bcap HF.out _).mono ?_
    rintro r w5 ⟨rfl, hb⟩
    try go_wp2_with fail
    refine hK.out _ _ (rb_keep HX.out (by assumption) hb) (fun hHeld2 => ?_)
    clear hK K
    try simp only [Act.put, List.setIfInBounds_toArray, List.set_cons_zero, List.set_cons_succ]
    refine wpAnyH_take (i := 2) (oi := { dst := some 5, op := Op.move (Operand.tmp 4), type := 4, pos := "law.go:27", after := #[{ on := 1, ground := Ground.data }, { on := 1, ground := Ground.chain }], guard := none }) (v := ?_) rfl (by kernel_rfl) (by kernel_rfl) (by kernel_rfl) (fun _ _ _ h => h) (Or.inl ⟨by rfl, ?_⟩) (by assumption) ?_
    rotate_left
    · intro w hSw; (try dsimp only at hSw); go_simp; try (with_reducible rfl)
    try simp only [Act.put, List.setIfInBounds_toArray, List.set_cons_zero, List.set_cons_succ]
    refine wpAnyH_take (i := 3) (oi := { dst := some 6, op := Op.call { callee := Callee.value (Operand.func 16), args := #[], argTypes := #[] }, type := 4, pos := "law.go:27", after := #[{ on := 2, ground := Ground.chain }, { on := 2, ground := Ground.guard }], guard := some (2, true) }) (v := undef) rfl (by kernel_rfl) (by kernel_rfl) (by kernel_rfl) (fun _ _ _ h => h) (Or.inr ⟨by rfl, rfl⟩) (by assumption) ?_
    try simp only [Act.put, List.setIfInBounds_toArray, List.set_cons_zero, List.set_cons_succ]
    refine wpAnyH_take (i := 4) (oi := { dst := some 7, op := Op.pick (Operand.tmp 5) (Operand.tmp 6) (Operand.const (Value.bool false)), type := 4, pos := "law.go:27", after := #[{ on := 2, ground := Ground.data }, { on := 3, ground := Ground.data }], guard := none }) (v := ?_) rfl (by kernel_rfl) (by kernel_rfl) (by kernel_rfl) (fun _ _ _ h => h) (Or.inl ⟨by rfl, ?_⟩) (by assumption) ?_
    rotate_left
    · intro w hSw; (try dsimp only at hSw); go_simp; try (with_reducible rfl)
    try simp only [Act.put, List.setIfInBounds_toArray, List.set_cons_zero, List.set_cons_succ]
    refine wpAnyH_take (i := 5) (oi := { dst := some 8, op := Op.move (Operand.tmp 7), type := 4, pos := "law.go:27", after := #[{ on := 4, ground := Ground.data }, { on := 3, ground := Ground.chain }], guard := none }) (v := ?_) rfl (by kernel_rfl) (by kernel_rfl) (by kernel_rfl) (fun _ _ _ h => h) (Or.inl ⟨by rfl, ?_⟩) (by assumption) ?_
    rotate_left
    · intro w hSw; (try dsimp only at hSw); go_simp; try (with_reducible rfl)
    try simp only [Act.put, List.setIfInBounds_toArray, List.set_cons_zero, List.set_cons_succ]
    refine wpAnyH_take (i := 6) (oi := { dst := some 9, op := Op.load 25 (Operand.tmp 1), type := 25, pos := "law.go:27", after := #[{ on := 5, ground := Ground.guard }], guard := some (5, false) }) (v := ?_) rfl (by kernel_rfl) (by kernel_rfl) (by kernel_rfl) (fun _ _ _ h => h) (Or.inl ⟨by rfl, ?_⟩) (by assumption) ?_
    rotate_left
    · intro w hSw; (try dsimp only at hSw); go_simp; try (with_reducible rfl)
    try simp only [Act.put, List.setIfInBounds_toArray, List.set_cons_zero, List.set_cons_succ]
    refine wpAnyH_take (i := 8) (oi := { dst := some 11, op := Op.load 25 (Operand.tmp 1), type := 25, pos := "law.go:27", after := #[{ on := 5, ground := Ground.guard }], guard := some (5, false) }) (v := ?_) rfl (by kernel_rfl) (by kernel_rfl) (by kernel_rfl) (fun _ _ _ h => h) (Or.inl ⟨by rfl, ?_⟩) (by assumption) ?_
    rotate_left
    · intro w hSw; (try dsimp only at hSw); go_simp; try (with_reducible rfl)
    try simp only [Act.put, List.setIfInBounds_toArray, List.set_cons_zero, List.set_cons_succ]
    refine wpAnyH_ready (rs := [7]) (by kernel_rfl) (by simp) ?_
    refine AllReadyH.cons (o := { dst := some 10, op := Op.call { callee := Callee.value (Operand.func 17), args := #[Operand.tmp 9], argTypes := #[25] }, type := 28, pos := "law.go:27", after := #[{ on := 6, ground := Ground.data }, { on := 5, ground := Ground.chain }, { on := 5, ground := Ground.guard }], guard := some (5, false) }) rfl (fun K hK => ?_) AllReadyH.nil
    go_simp
    refine (refvalidate_any Wd Hd ao n cap Z bo m bcap B (by omega) (by omega) _ (rb_ints (by assumption)) (rb_bools (by assumption)) e HE.out).mono ?_
    rintro r w6 ⟨rfl, hb⟩
    try go_wp2_with fail
    refine hK.out _ _ (rb_keep HX.out (by assumption) hb) (fun hHeld3 => ?_)
    clear hK K
    try simp only [Act.put, List.setIfInBounds_toArray, List.set_cons_zero, List.set_cons_succ]
    refine wpAnyH_ready (rs := [9]) (by kernel_rfl) (by simp) ?_
    refine AllReadyH.cons (o := { dst := some 12, op := Op.call { callee := Callee.value (Operand.func 18), args := #[Operand.tmp 11], argTypes := #[25] }, type := 28, pos := "law.go:27", after := #[{ on := 8, ground := Ground.data }, { on := 7, ground := Ground.chain }, { on := 5, ground := Ground.guard }], guard := some (5, false) }) rfl (fun K hK => ?_) AllReadyH.nil
    go_simp
    refine (validate_any Wd Hd ao n cap Z bo m bcap B (by omega) (by omega) _ (rb_ints (by assumption)) (rb_bools (by assumption)) e HE.out).mono ?_
    rintro r w7 ⟨rfl, hb⟩
    try go_wp2_with fail
    refine hK.out _ _ (rb_keep HX.out (by assumption) hb) (fun hHeld4 => ?_)
    clear hK K
    try simp only [Act.put, List.setIfInBounds_toArray, List.set_cons_zero, List.set_cons_succ]
    refine wpAnyH_take (i := 10) (oi := { dst := some 13, op := Op.binOp BinOp.eql 28 (Operand.tmp 10) (Operand.tmp 12) 28, type := 4, pos := "law.go:27", after := #[{ on := 7, ground := Ground.data }, { on := 9, ground := Ground.data }, { on := 5, ground := Ground.guard }], guard := some (5, false) }) (v := ?_) rfl (by kernel_rfl) (by kernel_rfl) (by kernel_rfl) (fun _ _ _ h => h) (Or.inl ⟨by rfl, ?_⟩) (by assumption) ?_
    rotate_left
    · intro w hSw; (try dsimp only at hSw); go_simp; try (with_reducible rfl)
    try simp only [Act.put, List.setIfInBounds_toArray, List.set_cons_zero, List.set_cons_succ]
    refine wpAnyH_take (i := 11) (oi := { dst := some 14, op := Op.move (Operand.tmp 13), type := 4, pos := "law.go:27", after := #[{ on := 10, ground := Ground.data }, { on := 9, ground := Ground.chain }, { on := 5, ground := Ground.guard }], guard := some (5, false) }) (v := ?_) rfl (by kernel_rfl) (by kernel_rfl) (by kernel_rfl) (fun _ _ _ h => h) (Or.inl ⟨by rfl, ?_⟩) (by assumption) ?_
    rotate_left
    · intro w hSw; (try dsimp only at hSw); go_simp; try (with_reducible rfl)
    try simp only [Act.put, List.setIfInBounds_toArray, List.set_cons_zero, List.set_cons_succ]
    refine wpAnyH_ready (rs := [12]) (by kernel_rfl) (by simp) ?_
    refine AllReadyH.cons (o := { dst := some 15, op := Op.call { callee := Callee.value (Operand.func 16), args := #[], argTypes := #[] }, type := 4, pos := "law.go:27", after := #[{ on := 11, ground := Ground.chain }, { on := 11, ground := Ground.guard }], guard := some (11, true) }) rfl (fun K hK => ?_) AllReadyH.nil
    go_simp
    refine (known_any _ (rb_tab (by assumption))).mono ?_
    rintro r w8 ⟨rfl, hb⟩
    try go_wp2_with fail
    refine hK.out _ _ (rb_keep HX.out (by assumption) hb) (fun hHeld5 => ?_)
    clear hK K
    try simp only [Act.put, List.setIfInBounds_toArray, List.set_cons_zero, List.set_cons_succ]
    refine wpAnyH_take (i := 13) (oi := { dst := some 16, op := Op.pick (Operand.tmp 14) (Operand.tmp 15) (Operand.const (Value.bool false)), type := 4, pos := "law.go:27", after := #[{ on := 11, ground := Ground.data }, { on := 12, ground := Ground.data }, { on := 5, ground := Ground.guard }], guard := some (5, false) }) (v := ?_) rfl (by kernel_rfl) (by kernel_rfl) (by kernel_rfl) (fun _ _ _ h => h) (Or.inl ⟨by rfl, ?_⟩) (by assumption) ?_
    rotate_left
    · intro w hSw; (try dsimp only at hSw); go_simp; try (with_reducible rfl)
    try simp only [Act.put, List.setIfInBounds_toArray, List.set_cons_zero, List.set_cons_succ]
    refine wpAnyH_take (i := 14) (oi := { dst := some 17, op := Op.pick (Operand.tmp 8) (Operand.const (Value.bool true)) (Operand.tmp 16), type := 4, pos := "law.go:27", after := #[{ on := 5, ground := Ground.data }, { on := 13, ground := Ground.data }], guard := none }) (v := ?_) rfl (by kernel_rfl) (by kernel_rfl) (by kernel_rfl) (fun _ _ _ h => h) (Or.inl ⟨by rfl, ?_⟩) (by assumption) ?_
    rotate_left
    · intro w hSw; (try dsimp only at hSw); go_simp; try (with_reducible rfl)
    try simp only [Act.put, List.setIfInBounds_toArray, List.set_cons_zero, List.set_cons_succ]
    refine wpAnyH_take (i := 15) (oi := { dst := some 2, op := Op.assign (Operand.tmp 17), type := 4, pos := "law.go:27", after := #[{ on := 14, ground := Ground.data }, { on := 12, ground := Ground.chain }, { on := 0, ground := Ground.phase }, { on := 1, ground := Ground.phase }, { on := 2, ground := Ground.phase }, { on := 3, ground := Ground.phase }, { on := 4, ground := Ground.phase }, { on := 5, ground := Ground.phase }, { on := 6, ground := Ground.phase }, { on := 7, ground := Ground.phase }, { on := 8, ground := Ground.phase }, { on := 9, ground := Ground.phase }, { on := 10, ground := Ground.phase }, { on := 11, ground := Ground.phase }, { on := 12, ground := Ground.phase }, { on := 13, ground := Ground.phase }, { on := 14, ground := Ground.phase }], guard := none }) (v := ?_) rfl (by kernel_rfl) (by kernel_rfl) (by kernel_rfl) (fun _ _ _ h => h) (Or.inl ⟨by rfl, ?_⟩) (by assumption) ?_
    rotate_left
    · intro w hSw; (try dsimp only at hSw); go_simp; try (with_reducible rfl)
    try simp only [Act.put, List.setIfInBounds_toArray, List.set_cons_zero, List.set_cons_succ]
    refine wpAnyH_done (by kernel_rfl) ?_ _
    go_wp2_with fail
    go_ret
    exact ⟨rfl, rb_below (by assumption)⟩
end Go.Proofs.YtlpmahdplilbiaaDoor
