/-
  The first error of signals on rails: the walk of Validate of the program's blocks.
-/
import Derived.Test.YtbfpcolkbfljoaaDoorBLies
namespace Go.Proofs.YtbfpcolkbfljoaaDoor
open Go.RowKit

/-- Signals ascend, are few and have kinds; each of them stands at an end of a piece that lies. -/
def AscS (l : Nat) (S : Nat → Sg) : Prop := ∀ i, i + 1 < l → Less (S i) (S (i + 1))
structure SOk (l : Nat) (S : Nat → Sg) : Prop where
  few : l ≤ 300
  asc : AscS l S
  kind : ∀ i, i < l → 0 ≤ (S i).k ∧ (S i).k ≤ 5
def Stand (n : Nat) (Z : Nat → Int) (l : Nat) (S : Nat → Sg) : Prop := ∀ i, i < l → IsSpot n Z (S i).t (S i).p (S i).o
/-- The first error of signals on rails. -/
def BErr (W H : Int) (n m : Nat) (Z : Nat → Int) (B : Nat → Bool) (l : Nat) (S : Nat → Sg) (e : Int) : Prop :=
  (e ≠ 0 ∧ VErr W H n m Z B e) ∨ (Right W H n m Z B ∧ ((e = 1 ∧ ¬ SOk l S) ∨ (e = 2 ∧ SOk l S ∧ ¬ Stand n Z l S) ∨ (e = 0 ∧ SOk l S ∧ Stand n Z l S)))
theorem BErr.ex (W H : Int) (n m : Nat) (Z : Nat → Int) (B : Nat → Bool) (l : Nat) (S : Nat → Sg) : ∃ e, BErr W H n m Z B l S e := by
  by_cases h : Right W H n m Z B
  · by_cases k : SOk l S
    · by_cases q : Stand n Z l S
      · exact ⟨0, .inr ⟨h, .inr (.inr ⟨rfl, k, q⟩)⟩⟩
      · exact ⟨2, .inr ⟨h, .inr (.inl ⟨rfl, k, q⟩)⟩⟩
    · exact ⟨1, .inr ⟨h, .inl ⟨rfl, k⟩⟩⟩
  · exact ⟨1, .inl ⟨by omega, .inr ⟨rfl, h⟩⟩⟩
theorem BErr.right {W H : Int} {n m : Nat} {Z : Nat → Int} {B : Nat → Bool} {l : Nat} {S : Nat → Sg} (h : BErr W H n m Z B l S 0) : Right W H n m Z B ∧ SOk l S ∧ Stand n Z l S := by
  rcases h with ⟨h, _⟩ | ⟨hr, ⟨h, _⟩ | ⟨h, _⟩ | ⟨_, h1, h2⟩⟩
  · exact absurd rfl h
  · cases h
  · cases h
  · exact ⟨hr, h1, h2⟩
theorem BErr.small {W H : Int} {n m : Nat} {Z : Nat → Int} {B : Nat → Bool} {l : Nat} {S : Nat → Sg} {e : Int} (h : BErr W H n m Z B l S e) : e = 0 ∨ e = 1 ∨ e = 2 := by
  rcases h with ⟨_, ⟨h, _⟩ | ⟨h, _⟩⟩ | ⟨_, ⟨h, _⟩ | ⟨h, _⟩ | ⟨h, _⟩⟩
  · exact .inl h
  · exact .inr (.inl h)
  · exact .inr (.inl h)
  · exact .inr (.inr h)
  · exact .inl h

/-- Two signals beside each other in a list, for the walk. -/
theorem two_keep {w0 : World} {bl : Nat} {S : Nat → Sg} {i j x y : Nat} {wr w' : World} (hz : bl < w0.heap.size) (D : (w0.cell? ⟨bl, x, none⟩ = some (.int .i64 (S i).t) ∧ w0.cell? ⟨bl, x + 1, none⟩ = some (.int .i64 (S i).p) ∧ w0.cell? ⟨bl, x + 2, none⟩ = some (.int .i64 (S i).o) ∧ w0.cell? ⟨bl, x + 3, none⟩ = some (.int .i64 (S i).k)) ∧ (w0.cell? ⟨bl, y, none⟩ = some (.int .i64 (S j).t) ∧ w0.cell? ⟨bl, y + 1, none⟩ = some (.int .i64 (S j).p) ∧ w0.cell? ⟨bl, y + 2, none⟩ = some (.int .i64 (S j).o) ∧ w0.cell? ⟨bl, y + 3, none⟩ = some (.int .i64 (S j).k))) {P : Prop} (h : Below w0.heap.size w0 wr ∧ P) (hb : Below wr.heap.size wr w') :
    Below w0.heap.size w0 w' ∧ (w'.cell? ⟨bl, x, none⟩ = some (.int .i64 (S i).t) ∧ w'.cell? ⟨bl, x + 1, none⟩ = some (.int .i64 (S i).p) ∧ w'.cell? ⟨bl, x + 2, none⟩ = some (.int .i64 (S i).o) ∧ w'.cell? ⟨bl, x + 3, none⟩ = some (.int .i64 (S i).k)) ∧ (w'.cell? ⟨bl, y, none⟩ = some (.int .i64 (S j).t) ∧ w'.cell? ⟨bl, y + 1, none⟩ = some (.int .i64 (S j).p) ∧ w'.cell? ⟨bl, y + 2, none⟩ = some (.int .i64 (S j).o) ∧ w'.cell? ⟨bl, y + 3, none⟩ = some (.int .i64 (S j).k)) :=
  have q := h.1.trans (hb.mono h.1.size)
  have c : ∀ (i : Nat) (v : Value), w0.cell? ⟨bl, i, none⟩ = some v → w'.cell? ⟨bl, i, none⟩ = some v := fun i _ e => (q.cell (p := ⟨bl, i, none⟩) hz).trans e
  ⟨q, ⟨c _ _ D.1.1, c _ _ D.1.2.1, c _ _ D.1.2.2.1, c _ _ D.1.2.2.2⟩, ⟨c _ _ D.2.1, c _ _ D.2.2.1, c _ _ D.2.2.2.1, c _ _ D.2.2.2.2⟩⟩

set_option maxRecDepth 20000 in
set_option maxHeartbeats 6400000 in
theorem ascends_any (lo : Option Addr) (l lcap : Nat) (S : Nat → Sg) (hl : l ≤ 300) (r : Bool) (hr : r = true ↔ AscS l S) (w : World) (hS : SigsAt w lo l S) :
    Calls Tryd.prog 58 #[.slice lo l lcap] w fun e w' => e = .returned (.bool r) ∧ Below w.heap.size w w' := by
  have HR := hid hr
  have HS := hid hS
  clear hr hS
  have hm0 : (0 : Int) ≤ (l : Int) := by omega
  go_enter Tryd.func58, Tryd.ntmps58
  go_wp2_with fail
  go_loopw [3] (fun iv wr => ∃ i : Nat, (i ≤ l ∨ i = 1) ∧ 1 ≤ i ∧ iv = .int .i64 i ∧ Hid (∀ j, j + 1 < i → Less (S j) (S (j + 1))) ∧ Hid (Below w.heap.size w wr)) (fun iv _ => l + 1 - (intOf iv).toNat)
  case atStart => exact ⟨1, .inr rfl, Nat.le_refl _, rfl, hid (fun j hj => by omega), hid (Below.refl _ _)⟩
  case round =>
    obtain ⟨i, hi, hi1, rfl, hk, hB⟩ := hrel
    by_cases hlt : i < l
    · obtain ⟨bl, off, rfl, hbz, hc⟩ := HS.out.one (by omega)
      have D := hid (And.intro (hc (i - 1) (by omega)) (hc i hlt))
      clear hc
      obtain ⟨x, hx⟩ : ∃ x, x = off + (i - 1) * 4 := ⟨_, rfl⟩
      obtain ⟨y, hy⟩ : ∃ y, y = off + i * 4 := ⟨_, rfl⟩
      obtain ⟨j, hj⟩ : ∃ j, j = i - 1 := ⟨_, rfl⟩
      rw [← hx, ← hy] at D
      rw [← hj] at D hx
      have a1 : (0 : Int) ≤ (i : Int) - 1 := by omega
      have a2 : (i : Int) - 1 < (l : Int) := by omega
      have a3 : (0 : Int) ≤ (i : Int) := by omega
      have a7 : (1 : Int) ≤ (i : Int) := by omega
      have a4 : (i : Int) < (l : Int) := by omega
      have a5 : ((i : Int) - 1).toNat = j := by omega
      have a6 : IntKind.i64.wrap ((i : Int) - 1) = (i : Int) - 1 := by rw [IntKind.wrap_i64]; omega
      have ex : off + j * 4 = x := hx.symm
      have ey : off + i * 4 = y := hy.symm
      obtain ⟨c, hcc⟩ : ∃ c, c = c3 (S j).t (S j).p (S j).o (S i).t (S i).p (S i).o := ⟨_, rfl⟩
      have HC := hid hcc
      have HJ := hid hj
      clear hx hy hcc hj
      by_cases hneg : c < 0
      · have HL : Hid (Less (S j) (S i)) := hid (by unfold Less; rw [← c3_neg, ← HC.out]; exact hneg)
        go_upto_region 4 with fail
        refine wp_region_held_drew (S := (fun wr => Below w.heap.size w wr ∧ (wr.cell? ⟨bl, x, none⟩ = some (.int .i64 (S j).t) ∧ wr.cell? ⟨bl, x + 1, none⟩ = some (.int .i64 (S j).p) ∧ wr.cell? ⟨bl, x + 2, none⟩ = some (.int .i64 (S j).o) ∧ wr.cell? ⟨bl, x + 3, none⟩ = some (.int .i64 (S j).k)) ∧ (wr.cell? ⟨bl, y, none⟩ = some (.int .i64 (S i).t) ∧ wr.cell? ⟨bl, y + 1, none⟩ = some (.int .i64 (S i).p) ∧ wr.cell? ⟨bl, y + 2, none⟩ = some (.int .i64 (S i).o) ∧ wr.cell? ⟨bl, y + 3, none⟩ = some (.int .i64 (S i).k)))) (by kernel_rfl) (two_keep hbz D.out (And.intro hB.out trivial) ((Below.refl _ _).drew)) (fun hHeld => ?_)
        refine wpAnyH_take (i := 0) (oi := { dst := some 10, op := Op.move (Operand.tmp 0), type := 26, pos := "block.go:94", after := #[], guard := none }) (v := ?_) rfl (by kernel_rfl) (by kernel_rfl) (by kernel_rfl) (fun _ _ _ h => h) (Or.inl ⟨by rfl, ?_⟩) (by assumption) ?_
        rotate_left
        · intro w hSw; (try dsimp only at hSw); go_simp; try (with_reducible rfl)
        try simp only [Act.put, List.setIfInBounds_toArray, List.set_cons_zero, List.set_cons_succ]
        refine wpAnyH_take (i := 1) (oi := { dst := some 11, op := Op.move (Operand.tmp 3), type := 3, pos := "block.go:94", after := #[], guard := none }) (v := ?_) rfl (by kernel_rfl) (by kernel_rfl) (by kernel_rfl) (fun _ _ _ h => h) (Or.inl ⟨by rfl, ?_⟩) (by assumption) ?_
        rotate_left
        · intro w hSw; (try dsimp only at hSw); go_simp; try (with_reducible rfl)
        try simp only [Act.put, List.setIfInBounds_toArray, List.set_cons_zero, List.set_cons_succ]
        refine wpAnyH_take (i := 2) (oi := { dst := some 12, op := Op.binOp BinOp.sub 3 (Operand.tmp 11) (Operand.const (Value.int IntKind.i64 1)) 3, type := 3, pos := "block.go:94", after := #[{ on := 1, ground := Ground.data }], guard := none }) (v := ?_) rfl (by kernel_rfl) (by kernel_rfl) (by kernel_rfl) (fun _ _ _ h => h) (Or.inl ⟨by rfl, ?_⟩) (by assumption) ?_
        rotate_left
        · intro w hSw; (try dsimp only at hSw); go_simp; try (with_reducible rfl)
        try simp only [Act.put, List.setIfInBounds_toArray, List.set_cons_zero, List.set_cons_succ]
        refine wpAnyH_take (i := 3) (oi := { dst := some 13, op := Op.indexAddr 26 (Operand.tmp 10) (Operand.tmp 12), type := 0, pos := "block.go:94", after := #[{ on := 0, ground := Ground.data }, { on := 2, ground := Ground.data }], guard := none }) (v := ?_) rfl (by kernel_rfl) (by kernel_rfl) (by kernel_rfl) (fun _ _ _ h => h) (Or.inl ⟨by rfl, ?_⟩) (by assumption) ?_
        rotate_left
        · intro w hSw; (try dsimp only at hSw); go_simp; try (with_reducible rfl)
        try simp only [Act.put, List.setIfInBounds_toArray, List.set_cons_zero, List.set_cons_succ]
        refine wpAnyH_take (i := 4) (oi := { dst := some 14, op := Op.load 32 (Operand.tmp 13), type := 32, pos := "block.go:94", after := #[{ on := 3, ground := Ground.data }], guard := none }) (v := ?_) rfl (by kernel_rfl) (by kernel_rfl) (by kernel_rfl) (fun _ _ _ h => h) (Or.inl ⟨by rfl, ?_⟩) (by assumption) ?_
        rotate_left
        · intro w hSw; (try dsimp only at hSw); go_simp; try (with_reducible rfl)
        try simp only [Act.put, List.setIfInBounds_toArray, List.set_cons_zero, List.set_cons_succ]
        refine wpAnyH_take (i := 6) (oi := { dst := some 16, op := Op.move (Operand.tmp 0), type := 26, pos := "block.go:94", after := #[], guard := none }) (v := ?_) rfl (by kernel_rfl) (by kernel_rfl) (by kernel_rfl) (fun _ _ _ h => h) (Or.inl ⟨by rfl, ?_⟩) (by assumption) ?_
        rotate_left
        · intro w hSw; (try dsimp only at hSw); go_simp; try (with_reducible rfl)
        try simp only [Act.put, List.setIfInBounds_toArray, List.set_cons_zero, List.set_cons_succ]
        refine wpAnyH_take (i := 7) (oi := { dst := some 17, op := Op.move (Operand.tmp 3), type := 3, pos := "block.go:94", after := #[], guard := none }) (v := ?_) rfl (by kernel_rfl) (by kernel_rfl) (by kernel_rfl) (fun _ _ _ h => h) (Or.inl ⟨by rfl, ?_⟩) (by assumption) ?_
        rotate_left
        · intro w hSw; (try dsimp only at hSw); go_simp; try (with_reducible rfl)
        try simp only [Act.put, List.setIfInBounds_toArray, List.set_cons_zero, List.set_cons_succ]
        refine wpAnyH_take (i := 8) (oi := { dst := some 18, op := Op.indexAddr 26 (Operand.tmp 16) (Operand.tmp 17), type := 0, pos := "block.go:94", after := #[{ on := 6, ground := Ground.data }, { on := 7, ground := Ground.data }], guard := none }) (v := ?_) rfl (by kernel_rfl) (by kernel_rfl) (by kernel_rfl) (fun _ _ _ h => h) (Or.inl ⟨by rfl, ?_⟩) (by assumption) ?_
        rotate_left
        · intro w hSw; (try dsimp only at hSw); go_simp; try (with_reducible rfl)
        try simp only [Act.put, List.setIfInBounds_toArray, List.set_cons_zero, List.set_cons_succ]
        refine wpAnyH_take (i := 9) (oi := { dst := some 19, op := Op.load 32 (Operand.tmp 18), type := 32, pos := "block.go:94", after := #[{ on := 8, ground := Ground.data }], guard := none }) (v := ?_) rfl (by kernel_rfl) (by kernel_rfl) (by kernel_rfl) (fun _ _ _ h => h) (Or.inl ⟨by rfl, ?_⟩) (by assumption) ?_
        rotate_left
        · intro w hSw; (try dsimp only at hSw); go_simp; try (with_reducible rfl)
        try simp only [Act.put, List.setIfInBounds_toArray, List.set_cons_zero, List.set_cons_succ]
        refine wpAnyH_ready (rs := [5]) (by kernel_rfl) (by simp) ?_
        refine AllReadyH.cons (o := { dst := some 15, op := Op.call { callee := Callee.value (Operand.func 57), args := #[Operand.tmp 14], argTypes := #[32] }, type := 50, pos := "block.go:94", after := #[{ on := 4, ground := Ground.data }], guard := none }) rfl (fun K hK => ?_) AllReadyH.nil
        go_simp
        refine (spot_any _ _ _ _ _).mono ?_
        rintro r w' ⟨rfl, hb⟩
        try go_wp2_with fail
        refine hK.out _ _ (two_keep hbz D.out (by assumption) hb) (fun hHeld2 => ?_)
        clear hK K
        try simp only [Act.put, List.setIfInBounds_toArray, List.set_cons_zero, List.set_cons_succ]
        refine wpAnyH_ready (rs := [10]) (by kernel_rfl) (by simp) ?_
        refine AllReadyH.cons (o := { dst := some 20, op := Op.call { callee := Callee.value (Operand.func 57), args := #[Operand.tmp 19], argTypes := #[32] }, type := 50, pos := "block.go:94", after := #[{ on := 9, ground := Ground.data }, { on := 5, ground := Ground.chain }], guard := none }) rfl (fun K hK => ?_) AllReadyH.nil
        go_simp
        refine (spot_any _ _ _ _ _).mono ?_
        rintro r w' ⟨rfl, hb⟩
        try go_wp2_with fail
        refine hK.out _ _ (two_keep hbz D.out (by assumption) hb) (fun hHeld3 => ?_)
        clear hK K
        try simp only [Act.put, List.setIfInBounds_toArray, List.set_cons_zero, List.set_cons_succ]
        refine wpAnyH_ready (rs := [11]) (by kernel_rfl) (by simp) ?_
        refine AllReadyH.cons (o := { dst := some 21, op := Op.call { callee := Callee.value (Operand.func 95), args := #[Operand.tmp 15, Operand.tmp 20], argTypes := #[50, 50] }, type := 3, pos := "block.go:94", after := #[{ on := 5, ground := Ground.data }, { on := 10, ground := Ground.data }, { on := 10, ground := Ground.chain }], guard := none }) rfl (fun K hK => ?_) AllReadyH.nil
        go_simp
        refine (compare_any _ _ _ _ _ _ c HC.out _).mono ?_
        rintro r w' ⟨rfl, hb⟩
        try go_wp2_with fail
        refine hK.out _ _ (two_keep hbz D.out (by assumption) hb) (fun hHeld4 => ?_)
        clear hK K
        try simp only [Act.put, List.setIfInBounds_toArray, List.set_cons_zero, List.set_cons_succ]
        refine wpAnyH_take (i := 12) (oi := { dst := some 22, op := Op.binOp BinOp.geq 3 (Operand.tmp 21) (Operand.const (Value.int IntKind.i64 0)) 3, type := 4, pos := "block.go:94", after := #[{ on := 11, ground := Ground.data }], guard := none }) (v := ?_) rfl (by kernel_rfl) (by kernel_rfl) (by kernel_rfl) (fun _ _ _ h => h) (Or.inl ⟨by rfl, ?_⟩) (by assumption) ?_
        rotate_left
        · intro w hSw; (try dsimp only at hSw); go_simp; try (with_reducible rfl)
        try simp only [Act.put, List.setIfInBounds_toArray, List.set_cons_zero, List.set_cons_succ]
        refine wpAnyH_done (by kernel_rfl) ?_ _
        have hBB := hid (And.left (by assumption : Below w.heap.size w _ ∧ _))
        clear a1 a2 a3 a4 a5 a6 a7 ex ey D
        go_wp2_with fail
        go_roundw
        case rel =>
          refine ⟨i + 1, .inl (by omega), by omega, by go_num, hid (fun q hq => ?_), hBB⟩
          by_cases h : q + 1 < i
          · exact hk.out q h
          · obtain rfl : q = j := by have := HJ.out; omega
            rw [show q + 1 = i from by have := HJ.out; omega]; exact HL.out
        case measure => simp [intOf]; omega
      · have hrf : r = false := by
          rw [Bool.eq_false_iff]; intro h
          have := HR.out.1 h j (by have := HJ.out; omega)
          unfold Less at this
          rw [show j + 1 = i from by have := HJ.out; omega, ← c3_neg, ← HC.out] at this
          exact hneg this
        subst hrf
        have hge : 0 ≤ c := by omega
        go_upto_region 4 with fail
        refine wp_region_held_drew (S := (fun wr => Below w.heap.size w wr ∧ (wr.cell? ⟨bl, x, none⟩ = some (.int .i64 (S j).t) ∧ wr.cell? ⟨bl, x + 1, none⟩ = some (.int .i64 (S j).p) ∧ wr.cell? ⟨bl, x + 2, none⟩ = some (.int .i64 (S j).o) ∧ wr.cell? ⟨bl, x + 3, none⟩ = some (.int .i64 (S j).k)) ∧ (wr.cell? ⟨bl, y, none⟩ = some (.int .i64 (S i).t) ∧ wr.cell? ⟨bl, y + 1, none⟩ = some (.int .i64 (S i).p) ∧ wr.cell? ⟨bl, y + 2, none⟩ = some (.int .i64 (S i).o) ∧ wr.cell? ⟨bl, y + 3, none⟩ = some (.int .i64 (S i).k)))) (by kernel_rfl) (two_keep hbz D.out (And.intro hB.out trivial) ((Below.refl _ _).drew)) (fun hHeld => ?_)
        refine wpAnyH_take (i := 0) (oi := { dst := some 10, op := Op.move (Operand.tmp 0), type := 26, pos := "block.go:94", after := #[], guard := none }) (v := ?_) rfl (by kernel_rfl) (by kernel_rfl) (by kernel_rfl) (fun _ _ _ h => h) (Or.inl ⟨by rfl, ?_⟩) (by assumption) ?_
        rotate_left
        · intro w hSw; (try dsimp only at hSw); go_simp; try (with_reducible rfl)
        try simp only [Act.put, List.setIfInBounds_toArray, List.set_cons_zero, List.set_cons_succ]
        refine wpAnyH_take (i := 1) (oi := { dst := some 11, op := Op.move (Operand.tmp 3), type := 3, pos := "block.go:94", after := #[], guard := none }) (v := ?_) rfl (by kernel_rfl) (by kernel_rfl) (by kernel_rfl) (fun _ _ _ h => h) (Or.inl ⟨by rfl, ?_⟩) (by assumption) ?_
        rotate_left
        · intro w hSw; (try dsimp only at hSw); go_simp; try (with_reducible rfl)
        try simp only [Act.put, List.setIfInBounds_toArray, List.set_cons_zero, List.set_cons_succ]
        refine wpAnyH_take (i := 2) (oi := { dst := some 12, op := Op.binOp BinOp.sub 3 (Operand.tmp 11) (Operand.const (Value.int IntKind.i64 1)) 3, type := 3, pos := "block.go:94", after := #[{ on := 1, ground := Ground.data }], guard := none }) (v := ?_) rfl (by kernel_rfl) (by kernel_rfl) (by kernel_rfl) (fun _ _ _ h => h) (Or.inl ⟨by rfl, ?_⟩) (by assumption) ?_
        rotate_left
        · intro w hSw; (try dsimp only at hSw); go_simp; try (with_reducible rfl)
        try simp only [Act.put, List.setIfInBounds_toArray, List.set_cons_zero, List.set_cons_succ]
        refine wpAnyH_take (i := 3) (oi := { dst := some 13, op := Op.indexAddr 26 (Operand.tmp 10) (Operand.tmp 12), type := 0, pos := "block.go:94", after := #[{ on := 0, ground := Ground.data }, { on := 2, ground := Ground.data }], guard := none }) (v := ?_) rfl (by kernel_rfl) (by kernel_rfl) (by kernel_rfl) (fun _ _ _ h => h) (Or.inl ⟨by rfl, ?_⟩) (by assumption) ?_
        rotate_left
        · intro w hSw; (try dsimp only at hSw); go_simp; try (with_reducible rfl)
        try simp only [Act.put, List.setIfInBounds_toArray, List.set_cons_zero, List.set_cons_succ]
        refine wpAnyH_take (i := 4) (oi := { dst := some 14, op := Op.load 32 (Operand.tmp 13), type := 32, pos := "block.go:94", after := #[{ on := 3, ground := Ground.data }], guard := none }) (v := ?_) rfl (by kernel_rfl) (by kernel_rfl) (by kernel_rfl) (fun _ _ _ h => h) (Or.inl ⟨by rfl, ?_⟩) (by assumption) ?_
        rotate_left
        · intro w hSw; (try dsimp only at hSw); go_simp; try (with_reducible rfl)
        try simp only [Act.put, List.setIfInBounds_toArray, List.set_cons_zero, List.set_cons_succ]
        refine wpAnyH_take (i := 6) (oi := { dst := some 16, op := Op.move (Operand.tmp 0), type := 26, pos := "block.go:94", after := #[], guard := none }) (v := ?_) rfl (by kernel_rfl) (by kernel_rfl) (by kernel_rfl) (fun _ _ _ h => h) (Or.inl ⟨by rfl, ?_⟩) (by assumption) ?_
        rotate_left
        · intro w hSw; (try dsimp only at hSw); go_simp; try (with_reducible rfl)
        try simp only [Act.put, List.setIfInBounds_toArray, List.set_cons_zero, List.set_cons_succ]
        refine wpAnyH_take (i := 7) (oi := { dst := some 17, op := Op.move (Operand.tmp 3), type := 3, pos := "block.go:94", after := #[], guard := none }) (v := ?_) rfl (by kernel_rfl) (by kernel_rfl) (by kernel_rfl) (fun _ _ _ h => h) (Or.inl ⟨by rfl, ?_⟩) (by assumption) ?_
        rotate_left
        · intro w hSw; (try dsimp only at hSw); go_simp; try (with_reducible rfl)
        try simp only [Act.put, List.setIfInBounds_toArray, List.set_cons_zero, List.set_cons_succ]
        refine wpAnyH_take (i := 8) (oi := { dst := some 18, op := Op.indexAddr 26 (Operand.tmp 16) (Operand.tmp 17), type := 0, pos := "block.go:94", after := #[{ on := 6, ground := Ground.data }, { on := 7, ground := Ground.data }], guard := none }) (v := ?_) rfl (by kernel_rfl) (by kernel_rfl) (by kernel_rfl) (fun _ _ _ h => h) (Or.inl ⟨by rfl, ?_⟩) (by assumption) ?_
        rotate_left
        · intro w hSw; (try dsimp only at hSw); go_simp; try (with_reducible rfl)
        try simp only [Act.put, List.setIfInBounds_toArray, List.set_cons_zero, List.set_cons_succ]
        refine wpAnyH_take (i := 9) (oi := { dst := some 19, op := Op.load 32 (Operand.tmp 18), type := 32, pos := "block.go:94", after := #[{ on := 8, ground := Ground.data }], guard := none }) (v := ?_) rfl (by kernel_rfl) (by kernel_rfl) (by kernel_rfl) (fun _ _ _ h => h) (Or.inl ⟨by rfl, ?_⟩) (by assumption) ?_
        rotate_left
        · intro w hSw; (try dsimp only at hSw); go_simp; try (with_reducible rfl)
        try simp only [Act.put, List.setIfInBounds_toArray, List.set_cons_zero, List.set_cons_succ]
        refine wpAnyH_ready (rs := [5]) (by kernel_rfl) (by simp) ?_
        refine AllReadyH.cons (o := { dst := some 15, op := Op.call { callee := Callee.value (Operand.func 57), args := #[Operand.tmp 14], argTypes := #[32] }, type := 50, pos := "block.go:94", after := #[{ on := 4, ground := Ground.data }], guard := none }) rfl (fun K hK => ?_) AllReadyH.nil
        go_simp
        refine (spot_any _ _ _ _ _).mono ?_
        rintro r w' ⟨rfl, hb⟩
        try go_wp2_with fail
        refine hK.out _ _ (two_keep hbz D.out (by assumption) hb) (fun hHeld2 => ?_)
        clear hK K
        try simp only [Act.put, List.setIfInBounds_toArray, List.set_cons_zero, List.set_cons_succ]
        refine wpAnyH_ready (rs := [10]) (by kernel_rfl) (by simp) ?_
        refine AllReadyH.cons (o := { dst := some 20, op := Op.call { callee := Callee.value (Operand.func 57), args := #[Operand.tmp 19], argTypes := #[32] }, type := 50, pos := "block.go:94", after := #[{ on := 9, ground := Ground.data }, { on := 5, ground := Ground.chain }], guard := none }) rfl (fun K hK => ?_) AllReadyH.nil
        go_simp
        refine (spot_any _ _ _ _ _).mono ?_
        rintro r w' ⟨rfl, hb⟩
        try go_wp2_with fail
        refine hK.out _ _ (two_keep hbz D.out (by assumption) hb) (fun hHeld3 => ?_)
        clear hK K
        try simp only [Act.put, List.setIfInBounds_toArray, List.set_cons_zero, List.set_cons_succ]
        refine wpAnyH_ready (rs := [11]) (by kernel_rfl) (by simp) ?_
        refine AllReadyH.cons (o := { dst := some 21, op := Op.call { callee := Callee.value (Operand.func 95), args := #[Operand.tmp 15, Operand.tmp 20], argTypes := #[50, 50] }, type := 3, pos := "block.go:94", after := #[{ on := 5, ground := Ground.data }, { on := 10, ground := Ground.data }, { on := 10, ground := Ground.chain }], guard := none }) rfl (fun K hK => ?_) AllReadyH.nil
        go_simp
        refine (compare_any _ _ _ _ _ _ c HC.out _).mono ?_
        rintro r w' ⟨rfl, hb⟩
        try go_wp2_with fail
        refine hK.out _ _ (two_keep hbz D.out (by assumption) hb) (fun hHeld4 => ?_)
        clear hK K
        try simp only [Act.put, List.setIfInBounds_toArray, List.set_cons_zero, List.set_cons_succ]
        refine wpAnyH_take (i := 12) (oi := { dst := some 22, op := Op.binOp BinOp.geq 3 (Operand.tmp 21) (Operand.const (Value.int IntKind.i64 0)) 3, type := 4, pos := "block.go:94", after := #[{ on := 11, ground := Ground.data }], guard := none }) (v := ?_) rfl (by kernel_rfl) (by kernel_rfl) (by kernel_rfl) (fun _ _ _ h => h) (Or.inl ⟨by rfl, ?_⟩) (by assumption) ?_
        rotate_left
        · intro w hSw; (try dsimp only at hSw); go_simp; try (with_reducible rfl)
        try simp only [Act.put, List.setIfInBounds_toArray, List.set_cons_zero, List.set_cons_succ]
        refine wpAnyH_done (by kernel_rfl) ?_ _
        have hBB := hid (And.left (by assumption : Below w.heap.size w _ ∧ _))
        clear a1 a2 a3 a4 a5 a6 a7 ex ey D
        go_wp2_with fail
        go_ret
        exact ⟨rfl, hBB.out⟩
    · have hrt : r = true := HR.out.2 fun q hq => hk.out q (by omega)
      subst hrt
      go_wp2_with fail
      go_ret
      exact ⟨rfl, hB.out⟩

set_option maxHeartbeats 1600000 in
theorem wrong_any (s : Sg) (r : Bool) (hr : r = false ↔ 0 ≤ s.k ∧ s.k ≤ 5) (w : World) : Calls Tryd.prog 53 #[sgv s] w fun e w' => e = .returned (.bool r) ∧ Below w.heap.size w w' := by
  have HB := hid (Joins.below_alloc1 w (.cells #[.int .i64 s.t, .int .i64 s.p, .int .i64 s.o, .int .i64 s.k] 32))
  obtain ⟨q, hq⟩ : ∃ q, q = !r := ⟨_, rfl⟩
  have HC := hid (fun w => isKind_any s.k q (by rw [← hr, hq]; cases r <;> simp) w)
  clear hr
  cases r
  all_goals
    simp only [Bool.not_true, Bool.not_false] at hq
    subst hq
    go_enter Tryd.func53, Tryd.ntmps53
    go_wp2_with (go_at_call 54; refine (HC.out _).mono ?_; rintro e w1 ⟨rfl, hb⟩)
    go_ret
    exact ⟨rfl, HB.out.trans (hb.mono HB.out.size)⟩

theorem off_keep {W H : Int} {X : Nat} {s : Sg} {sl u : Value} {w wr w' : World} (hX : X < w.heap.size) (h : Below w.heap.size w wr ∧ w.heap.size < wr.heap.size ∧ wr.cell? ⟨X, 0, none⟩ = some (.int .i64 W) ∧ wr.cell? ⟨X, 1, none⟩ = some (.int .i64 H) ∧ wr.cell? ⟨X, 2, none⟩ = some sl ∧ wr.cell? ⟨X, 3, none⟩ = some u ∧ wr.cell? ⟨w.heap.size, 0, none⟩ = some (.int .i64 s.t) ∧ wr.cell? ⟨w.heap.size, 1, none⟩ = some (.int .i64 s.p) ∧ wr.cell? ⟨w.heap.size, 2, none⟩ = some (.int .i64 s.o) ∧ wr.cell? ⟨w.heap.size, 3, none⟩ = some (.int .i64 s.k)) (hb : Below wr.heap.size wr w') :
    Below w.heap.size w w' ∧ w.heap.size < w'.heap.size ∧ w'.cell? ⟨X, 0, none⟩ = some (.int .i64 W) ∧ w'.cell? ⟨X, 1, none⟩ = some (.int .i64 H) ∧ w'.cell? ⟨X, 2, none⟩ = some sl ∧ w'.cell? ⟨X, 3, none⟩ = some u ∧ w'.cell? ⟨w.heap.size, 0, none⟩ = some (.int .i64 s.t) ∧ w'.cell? ⟨w.heap.size, 1, none⟩ = some (.int .i64 s.p) ∧ w'.cell? ⟨w.heap.size, 2, none⟩ = some (.int .i64 s.o) ∧ w'.cell? ⟨w.heap.size, 3, none⟩ = some (.int .i64 s.k) :=
  have a : ∀ i, w'.cell? ⟨X, i, none⟩ = wr.cell? ⟨X, i, none⟩ := fun i => hb.cell (p := ⟨X, i, none⟩) (Nat.lt_trans hX h.2.1)
  have b : ∀ i, w'.cell? ⟨w.heap.size, i, none⟩ = wr.cell? ⟨w.heap.size, i, none⟩ := fun i => hb.cell (p := ⟨w.heap.size, i, none⟩) h.2.1
  ⟨step h.1 hb, Nat.lt_of_lt_of_le h.2.1 hb.size, (a 0).trans h.2.2.1, (a 1).trans h.2.2.2.1, (a 2).trans h.2.2.2.2.1, (a 3).trans h.2.2.2.2.2.1, (b 0).trans h.2.2.2.2.2.2.1, (b 1).trans h.2.2.2.2.2.2.2.1, (b 2).trans h.2.2.2.2.2.2.2.2.1, (b 3).trans h.2.2.2.2.2.2.2.2.2⟩
theorem off_start {W H : Int} {X : Nat} {s : Sg} {sl u : Value} {w : World} (hX : X < w.heap.size) (x0 : w.cell? ⟨X, 0, none⟩ = some (.int .i64 W)) (x1 : w.cell? ⟨X, 1, none⟩ = some (.int .i64 H)) (x2 : w.cell? ⟨X, 2, none⟩ = some sl) (x3 : w.cell? ⟨X, 3, none⟩ = some u) : Below w.heap.size w (w.alloc (.cells #[.int .i64 s.t, .int .i64 s.p, .int .i64 s.o, .int .i64 s.k] 32)) ∧ w.heap.size < (w.alloc (.cells #[.int .i64 s.t, .int .i64 s.p, .int .i64 s.o, .int .i64 s.k] 32)).heap.size ∧ (w.alloc (.cells #[.int .i64 s.t, .int .i64 s.p, .int .i64 s.o, .int .i64 s.k] 32)).cell? ⟨X, 0, none⟩ = some (.int .i64 W) ∧ (w.alloc (.cells #[.int .i64 s.t, .int .i64 s.p, .int .i64 s.o, .int .i64 s.k] 32)).cell? ⟨X, 1, none⟩ = some (.int .i64 H) ∧ (w.alloc (.cells #[.int .i64 s.t, .int .i64 s.p, .int .i64 s.o, .int .i64 s.k] 32)).cell? ⟨X, 2, none⟩ = some sl ∧ (w.alloc (.cells #[.int .i64 s.t, .int .i64 s.p, .int .i64 s.o, .int .i64 s.k] 32)).cell? ⟨X, 3, none⟩ = some u ∧ (w.alloc (.cells #[.int .i64 s.t, .int .i64 s.p, .int .i64 s.o, .int .i64 s.k] 32)).cell? ⟨w.heap.size, 0, none⟩ = some (.int .i64 s.t) ∧ (w.alloc (.cells #[.int .i64 s.t, .int .i64 s.p, .int .i64 s.o, .int .i64 s.k] 32)).cell? ⟨w.heap.size, 1, none⟩ = some (.int .i64 s.p) ∧ (w.alloc (.cells #[.int .i64 s.t, .int .i64 s.p, .int .i64 s.o, .int .i64 s.k] 32)).cell? ⟨w.heap.size, 2, none⟩ = some (.int .i64 s.o) ∧ (w.alloc (.cells #[.int .i64 s.t, .int .i64 s.p, .int .i64 s.o, .int .i64 s.k] 32)).cell? ⟨w.heap.size, 3, none⟩ = some (.int .i64 s.k) :=
  have hB := Joins.below_alloc1 w (.cells #[.int .i64 s.t, .int .i64 s.p, .int .i64 s.o, .int .i64 s.k] 32)
  ⟨hB, by simp, (hB.cell (p := ⟨X, 0, none⟩) hX).trans x0, (hB.cell (p := ⟨X, 1, none⟩) hX).trans x1, (hB.cell (p := ⟨X, 2, none⟩) hX).trans x2, (hB.cell (p := ⟨X, 3, none⟩) hX).trans x3, by simp, by simp, by simp, by simp⟩
theorem off_below {w wr : World} {p : Prop} (h : Below w.heap.size w wr ∧ p) : Below w.heap.size w wr := h.1

set_option maxRecDepth 20000 in
set_option maxHeartbeats 3200000 in
theorem off_any (W H : Int) (ao : Option Addr) (n cap : Nat) (Z : Nat → Int) (u : Value) (hz : ∀ i, i < n → 0 ≤ Z i ∧ Z i ≤ 63) (X : Nat) (s : Sg) (r : Bool) (hr : r = false ↔ IsSpot n Z s.t s.p s.o) (w : World) (hT : Tab w) (hI : Ints w ao n Z)
    (x0 : w.cell? ⟨X, 0, none⟩ = some (.int .i64 W)) (x1 : w.cell? ⟨X, 1, none⟩ = some (.int .i64 H)) (x2 : w.cell? ⟨X, 2, none⟩ = some (.slice ao n cap)) (x3 : w.cell? ⟨X, 3, none⟩ = some u) (hX : X < w.heap.size) :
    Calls Tryd.prog 55 #[sgv s, .pointer (some ⟨X, 0, none⟩)] w fun e w' => e = .returned (.bool r) ∧ Below w.heap.size w w' := by
  have HB := hid (Joins.below_alloc1 w (.cells #[.int .i64 s.t, .int .i64 s.p, .int .i64 s.o, .int .i64 s.k] 32))
  have HT := hid hT
  have HI := hid hI
  have HZ := hid hz
  obtain ⟨q, hq⟩ : ∃ q, q = !r := ⟨_, rfl⟩
  have HC := hid (fun w hT hI => bears_any W H ao n cap Z u hz s.t s.p s.o q (by rw [← hr, hq]; cases r <;> simp) w hT hI)
  have HP := hid (off_start (s := s) hX x0 x1 x2 x3)
  clear hr hT hI hz x0 x1 x2 x3 HB
  cases r
  all_goals
    simp only [Bool.not_true, Bool.not_false] at hq
    subst hq
    go_enter Tryd.func55, Tryd.ntmps55
    go_upto_region 1 with fail
    generalize World.alloc w _ = wm at HP ⊢
    refine wp_region_held_drew (S := (fun wr => Below w.heap.size w wr ∧ w.heap.size < wr.heap.size ∧ wr.cell? ⟨X, 0, none⟩ = some (.int .i64 W) ∧ wr.cell? ⟨X, 1, none⟩ = some (.int .i64 H) ∧ wr.cell? ⟨X, 2, none⟩ = some (.slice ao n cap) ∧ wr.cell? ⟨X, 3, none⟩ = some u ∧ wr.cell? ⟨w.heap.size, 0, none⟩ = some (.int .i64 s.t) ∧ wr.cell? ⟨w.heap.size, 1, none⟩ = some (.int .i64 s.p) ∧ wr.cell? ⟨w.heap.size, 2, none⟩ = some (.int .i64 s.o) ∧ wr.cell? ⟨w.heap.size, 3, none⟩ = some (.int .i64 s.k))) (by kernel_rfl) (off_keep hX HP.out ((Below.refl _ _).drew)) (fun hHeld => ?_)
    refine wpAnyH_take (i := 0) (oi := { dst := some 4, op := Op.load 25 (Operand.tmp 1), type := 25, pos := "block.go:35", after := #[], guard := none }) (v := ?_) rfl (by kernel_rfl) (by kernel_rfl) (by kernel_rfl) (fun _ _ _ h => h) (Or.inl ⟨by rfl, ?_⟩) (by assumption) ?_
    rotate_left
    · intro w hSw; (try dsimp only at hSw); go_simp; try (with_reducible rfl)
    try simp only [Act.put, List.setIfInBounds_toArray, List.set_cons_zero, List.set_cons_succ]
    refine wpAnyH_take (i := 1) (oi := { dst := some 5, op := Op.load 32 (Operand.tmp 2), type := 32, pos := "block.go:35", after := #[], guard := none }) (v := ?_) rfl (by kernel_rfl) (by kernel_rfl) (by kernel_rfl) (fun _ _ _ h => h) (Or.inl ⟨by rfl, ?_⟩) (by assumption) ?_
    rotate_left
    · intro w hSw; (try dsimp only at hSw); go_simp; try (with_reducible rfl)
    try simp only [Act.put, List.setIfInBounds_toArray, List.set_cons_zero, List.set_cons_succ]
    refine wpAnyH_ready (rs := [2]) (by kernel_rfl) (by simp) ?_
    refine AllReadyH.cons (o := { dst := some 6, op := Op.call { callee := Callee.value (Operand.func 57), args := #[Operand.tmp 5], argTypes := #[32] }, type := 50, pos := "block.go:35", after := #[{ on := 1, ground := Ground.data }], guard := none }) rfl (fun K hK => ?_) AllReadyH.nil
    go_simp
    refine (spot_any _ _ _ _ _).mono ?_
    rintro r w' ⟨rfl, hb⟩
    try go_wp2_with fail
    refine hK.out _ _ (off_keep hX (by assumption) hb) (fun hHeld2 => ?_)
    clear hK K
    try simp only [Act.put, List.setIfInBounds_toArray, List.set_cons_zero, List.set_cons_succ]
    refine wpAnyH_ready (rs := [3]) (by kernel_rfl) (by simp) ?_
    refine AllReadyH.cons (o := { dst := some 7, op := Op.call { callee := Callee.value (Operand.func 56), args := #[Operand.tmp 4, Operand.tmp 6], argTypes := #[25, 50] }, type := 4, pos := "block.go:35", after := #[{ on := 0, ground := Ground.data }, { on := 2, ground := Ground.data }, { on := 2, ground := Ground.chain }], guard := none }) rfl (fun K hK => ?_) AllReadyH.nil
    go_simp
    refine (HC.out _ (HT.out.stays' (off_below (by assumption)) (Nat.le_refl _)) (HI.out.stays (off_below (by assumption)))).mono ?_
    rintro r w' ⟨rfl, hb⟩
    try go_wp2_with fail
    refine hK.out _ _ (off_keep hX (by assumption) hb) (fun hHeld3 => ?_)
    clear hK K
    try simp only [Act.put, List.setIfInBounds_toArray, List.set_cons_zero, List.set_cons_succ]
    refine wpAnyH_take (i := 4) (oi := { dst := some 8, op := Op.unOp UnOp.not 4 (Operand.tmp 7), type := 4, pos := "block.go:35", after := #[{ on := 3, ground := Ground.data }], guard := none }) (v := ?_) rfl (by kernel_rfl) (by kernel_rfl) (by kernel_rfl) (fun _ _ _ h => h) (Or.inl ⟨by rfl, ?_⟩) (by assumption) ?_
    rotate_left
    · intro w hSw; (try dsimp only at hSw); go_simp; try (with_reducible rfl)
    try simp only [Act.put, List.setIfInBounds_toArray, List.set_cons_zero, List.set_cons_succ]
    refine wpAnyH_take (i := 5) (oi := { dst := some 3, op := Op.assign (Operand.tmp 8), type := 4, pos := "block.go:35", after := #[{ on := 4, ground := Ground.data }, { on := 3, ground := Ground.chain }, { on := 0, ground := Ground.phase }, { on := 1, ground := Ground.phase }, { on := 2, ground := Ground.phase }, { on := 3, ground := Ground.phase }, { on := 4, ground := Ground.phase }], guard := none }) (v := ?_) rfl (by kernel_rfl) (by kernel_rfl) (by kernel_rfl) (fun _ _ _ h => h) (Or.inl ⟨by rfl, ?_⟩) (by assumption) ?_
    rotate_left
    · intro w hSw; (try dsimp only at hSw); go_simp; try (with_reducible rfl)
    try simp only [Act.put, List.setIfInBounds_toArray, List.set_cons_zero, List.set_cons_succ]
    refine wpAnyH_done (by kernel_rfl) ?_ _
    go_wp2_with fail
    go_ret
    exact ⟨rfl, off_below (by assumption)⟩

theorem first_of (P : Nat → Bool) : ∀ q, (∀ j, j < q → P j = false) ∨ ∃ i, i < q ∧ P i = true ∧ ∀ j, j < i → P j = false := by
  intro q
  induction q with
  | zero => exact .inl fun j hj => absurd hj (Nat.not_lt_zero j)
  | succ q ih =>
    rcases ih with h | ⟨i, h1, h2, h3⟩
    · cases hq : P q
      · refine .inl fun j hj => ?_
        by_cases h' : j < q
        · exact h j h'
        · obtain rfl : j = q := by omega
          exact hq
      · exact .inr ⟨q, Nat.lt_succ_self _, hq, h⟩
    · exact .inr ⟨i, by omega, h2, h3⟩

set_option maxRecDepth 20000 in
set_option maxHeartbeats 3200000 in
theorem index_wrong (lo : Option Addr) (m lcap : Nat) (S : Nat → Sg) (hm : m ≤ 300) (P : Nat → Bool) (w : World) (hS : SigsAt w lo m S)
    (hP : ∀ j, j < m → ∀ wr, Below w.heap.size w wr → Calls Tryd.prog 53 #[sgv (S j)] wr fun e w' => e = .returned (.bool (P j)) ∧ Below wr.heap.size wr w') (v : Int) (hv : (v = -1 ∧ ∀ j, j < m → P j = false) ∨ ∃ i : Nat, v = i ∧ i < m ∧ P i = true ∧ ∀ j, j < i → P j = false) :
    Calls Tryd.prog 96 #[.slice lo m lcap, .func (.func 53) #[] #[]] w fun e w' => e = .returned (.int .i64 v) ∧ Below w.heap.size w w' := by
  have HV := hid hv
  have HS := hid hS
  have HP := hid hP
  clear hv hS hP
  go_enter Tryd.func96, Tryd.ntmps96
  go_wp2_with fail
  go_loopw [8] (fun iv wr => ∃ i : Nat, i ≤ m ∧ iv = .int .i64 i ∧ Hid (∀ j, j < i → P j = false) ∧ Hid (Below w.heap.size w wr)) (fun iv _ => m - (intOf iv).toNat)
  case atStart => exact ⟨0, Nat.zero_le _, rfl, hid (fun j hj => by omega), hid (Below.refl _ _)⟩
  case round =>
    obtain ⟨i, hi, rfl, hk, hB⟩ := hrel
    by_cases hlt : i < m
    · obtain ⟨bl, off, rfl, hbz, c0, c1, c2, c3⟩ := (HS.out.stays hB.out) i hlt
      have HC := hid (HP.out i hlt wr hB.out)
      obtain ⟨p, hp⟩ : ∃ p, p = P i := ⟨_, rfl⟩
      rw [← hp] at HC
      have HPP := hid hp
      clear hp
      cases p
      · go_wp2_with (go_at_call 53; refine HC.out.mono ?_; rintro e w1 ⟨rfl, hb⟩; have HB1 := hid (hB.out.trans (hb.mono hB.out.size)); clear hb)
        go_roundw
        case rel =>
          refine ⟨i + 1, by omega, by go_num, hid (fun j hj => ?_), HB1⟩
          by_cases h : j < i
          · exact hk.out j h
          · obtain rfl : j = i := by omega
            exact HPP.out.symm
        case measure => simp [intOf]; omega
      · have hvi : Hid (v = i) := hid (by
          rcases HV.out with ⟨_, h⟩ | ⟨q, rfl, hq, h1, h2⟩
          · exact absurd (h i hlt) (by rw [← HPP.out]; simp)
          · by_cases h : q < i
            · rw [hk.out q h] at h1; cases h1
            · by_cases h' : i < q
              · exact absurd (h2 i h') (by rw [← HPP.out]; simp)
              · omega)
        go_wp2_with (go_at_call 53; refine HC.out.mono ?_; rintro e w1 ⟨rfl, hb⟩; have HB1 := hid (hB.out.trans (hb.mono hB.out.size)); clear hb)
        go_ret
        exact ⟨ret_int hvi.out.symm, HB1.out⟩
    · obtain rfl : i = m := by omega
      have hvi : Hid (v = -1) := hid (by
        rcases HV.out with ⟨h, _⟩ | ⟨q, rfl, hq, h1, h2⟩
        · exact h
        · rw [hk.out q hq] at h1; cases h1)
      go_wp2_with fail
      go_ret
      exact ⟨ret_int hvi.out.symm, hB.out⟩

set_option maxRecDepth 20000 in
set_option maxHeartbeats 3200000 in
theorem contains_wrong (lo : Option Addr) (m lcap : Nat) (S : Nat → Sg) (hm : m ≤ 300) (P : Nat → Bool) (w : World) (hS : SigsAt w lo m S)
    (hP : ∀ j, j < m → ∀ wr, Below w.heap.size w wr → Calls Tryd.prog 53 #[sgv (S j)] wr fun e w' => e = .returned (.bool (P j)) ∧ Below wr.heap.size wr w') (r : Bool) (hr : r = true ↔ ∃ j, j < m ∧ P j = true) :
    Calls Tryd.prog 59 #[.slice lo m lcap, .func (.func 53) #[] #[]] w fun e w' => e = .returned (.bool r) ∧ Below w.heap.size w w' := by
  rcases first_of P m with h | ⟨i, h1, h2, h3⟩
  · have hrf : r = false := by
      rw [Bool.eq_false_iff, ne_eq, hr]
      rintro ⟨j, hj, h'⟩
      rw [h j hj] at h'; cases h'
    subst hrf
    have HX := hid (index_wrong lo m lcap S hm  P w hS hP (-1) (.inl ⟨rfl, h⟩))
    clear hP hr h hS
    go_enter Tryd.func59, Tryd.ntmps59
    go_wp2_with (go_at_call 96; refine HX.out.mono ?_; rintro e w1 ⟨rfl, hb⟩)
    go_ret
    exact ⟨rfl, hb⟩
  · have hrt : r = true := hr.2 ⟨i, h1, h2⟩
    subst hrt
    have HX := hid (index_wrong lo m lcap S hm  P w hS hP i (.inr ⟨i, rfl, h1, h2, h3⟩))
    clear hP hr h2 h3 hS
    go_enter Tryd.func59, Tryd.ntmps59
    go_wp2_with (go_at_call 96; refine HX.out.mono ?_; rintro e w1 ⟨rfl, hb⟩)
    go_ret
    exact ⟨rfl, hb⟩

set_option maxRecDepth 20000 in
set_option maxHeartbeats 3200000 in
theorem index_off (lo : Option Addr) (m lcap : Nat) (S : Nat → Sg) (hm : m ≤ 300) (X : Nat) (P : Nat → Bool) (w : World) (hS : SigsAt w lo m S)
    (hP : ∀ j, j < m → ∀ wr, Below w.heap.size w wr → Calls Tryd.prog 55 #[sgv (S j), .pointer (some ⟨X, 0, none⟩)] wr fun e w' => e = .returned (.bool (P j)) ∧ Below wr.heap.size wr w') (v : Int) (hv : (v = -1 ∧ ∀ j, j < m → P j = false) ∨ ∃ i : Nat, v = i ∧ i < m ∧ P i = true ∧ ∀ j, j < i → P j = false) :
    Calls Tryd.prog 96 #[.slice lo m lcap, .func (.func 55) #[] #[.pointer (some ⟨X, 0, none⟩)]] w fun e w' => e = .returned (.int .i64 v) ∧ Below w.heap.size w w' := by
  have HV := hid hv
  have HS := hid hS
  have HP := hid hP
  clear hv hS hP
  go_enter Tryd.func96, Tryd.ntmps96
  go_wp2_with fail
  go_loopw [8] (fun iv wr => ∃ i : Nat, i ≤ m ∧ iv = .int .i64 i ∧ Hid (∀ j, j < i → P j = false) ∧ Hid (Below w.heap.size w wr)) (fun iv _ => m - (intOf iv).toNat)
  case atStart => exact ⟨0, Nat.zero_le _, rfl, hid (fun j hj => by omega), hid (Below.refl _ _)⟩
  case round =>
    obtain ⟨i, hi, rfl, hk, hB⟩ := hrel
    by_cases hlt : i < m
    · obtain ⟨bl, off, rfl, hbz, c0, c1, c2, c3⟩ := (HS.out.stays hB.out) i hlt
      have HC := hid (HP.out i hlt wr hB.out)
      obtain ⟨p, hp⟩ : ∃ p, p = P i := ⟨_, rfl⟩
      rw [← hp] at HC
      have HPP := hid hp
      clear hp
      cases p
      · go_wp2_with (go_at_call 55; refine HC.out.mono ?_; rintro e w1 ⟨rfl, hb⟩; have HB1 := hid (hB.out.trans (hb.mono hB.out.size)); clear hb)
        go_roundw
        case rel =>
          refine ⟨i + 1, by omega, by go_num, hid (fun j hj => ?_), HB1⟩
          by_cases h : j < i
          · exact hk.out j h
          · obtain rfl : j = i := by omega
            exact HPP.out.symm
        case measure => simp [intOf]; omega
      · have hvi : Hid (v = i) := hid (by
          rcases HV.out with ⟨_, h⟩ | ⟨q, rfl, hq, h1, h2⟩
          · exact absurd (h i hlt) (by rw [← HPP.out]; simp)
          · by_cases h : q < i
            · rw [hk.out q h] at h1; cases h1
            · by_cases h' : i < q
              · exact absurd (h2 i h') (by rw [← HPP.out]; simp)
              · omega)
        go_wp2_with (go_at_call 55; refine HC.out.mono ?_; rintro e w1 ⟨rfl, hb⟩; have HB1 := hid (hB.out.trans (hb.mono hB.out.size)); clear hb)
        go_ret
        exact ⟨ret_int hvi.out.symm, HB1.out⟩
    · obtain rfl : i = m := by omega
      have hvi : Hid (v = -1) := hid (by
        rcases HV.out with ⟨h, _⟩ | ⟨q, rfl, hq, h1, h2⟩
        · exact h
        · rw [hk.out q hq] at h1; cases h1)
      go_wp2_with fail
      go_ret
      exact ⟨ret_int hvi.out.symm, hB.out⟩

set_option maxRecDepth 20000 in
set_option maxHeartbeats 3200000 in
theorem contains_off (lo : Option Addr) (m lcap : Nat) (S : Nat → Sg) (hm : m ≤ 300) (X : Nat) (P : Nat → Bool) (w : World) (hS : SigsAt w lo m S)
    (hP : ∀ j, j < m → ∀ wr, Below w.heap.size w wr → Calls Tryd.prog 55 #[sgv (S j), .pointer (some ⟨X, 0, none⟩)] wr fun e w' => e = .returned (.bool (P j)) ∧ Below wr.heap.size wr w') (r : Bool) (hr : r = true ↔ ∃ j, j < m ∧ P j = true) :
    Calls Tryd.prog 59 #[.slice lo m lcap, .func (.func 55) #[] #[.pointer (some ⟨X, 0, none⟩)]] w fun e w' => e = .returned (.bool r) ∧ Below w.heap.size w w' := by
  rcases first_of P m with h | ⟨i, h1, h2, h3⟩
  · have hrf : r = false := by
      rw [Bool.eq_false_iff, ne_eq, hr]
      rintro ⟨j, hj, h'⟩
      rw [h j hj] at h'; cases h'
    subst hrf
    have HX := hid (index_off lo m lcap S hm X P w hS hP (-1) (.inl ⟨rfl, h⟩))
    clear hP hr h hS
    go_enter Tryd.func59, Tryd.ntmps59
    go_wp2_with (go_at_call 96; refine HX.out.mono ?_; rintro e w1 ⟨rfl, hb⟩)
    go_ret
    exact ⟨rfl, hb⟩
  · have hrt : r = true := hr.2 ⟨i, h1, h2⟩
    subst hrt
    have HX := hid (index_off lo m lcap S hm X P w hS hP i (.inr ⟨i, rfl, h1, h2, h3⟩))
    clear hP hr h2 h3 hS
    go_enter Tryd.func59, Tryd.ntmps59
    go_wp2_with (go_at_call 96; refine HX.out.mono ?_; rintro e w1 ⟨rfl, hb⟩)
    go_ret
    exact ⟨rfl, hb⟩

theorem dec_of (Q : Nat → Prop) : ∃ P : Nat → Bool, ∀ j, P j = false ↔ Q j := by
  have h : ∀ j, ∃ p : Bool, p = false ↔ Q j := fun j => by
    by_cases h : Q j
    · exact ⟨false, fun _ => h, fun _ => rfl⟩
    · exact ⟨true, fun k => (by cases k), fun k => absurd k h⟩
  exact ⟨fun j => (h j).choose, fun j => (h j).choose_spec⟩
theorem none_of {P : Nat → Bool} {Q : Nat → Prop} (h : ∀ j, P j = false ↔ Q j) (l : Nat) (r : Bool) (hr : r = false ↔ ∀ i, i < l → Q i) : r = true ↔ ∃ j, j < l ∧ P j = true := by
  cases r
  · refine ⟨fun h => (by cases h), fun ⟨j, hj, k⟩ => ?_⟩
    rw [(h j).2 (hr.1 rfl j hj)] at k; exact k
  · refine ⟨fun _ => ?_, fun _ => rfl⟩
    rcases first_of P l with k | ⟨i, h1, h2, _⟩
    · have := hr.2 fun i hi => (h i).1 (k i hi)
      cases this
    · exact ⟨i, h1, h2⟩

set_option maxRecDepth 20000 in
set_option maxHeartbeats 6400000 in
theorem bvalidate_to (Wd Hd : Int) (ao : Option Addr) (n cap : Nat) (Z : Nat → Int) (bo : Option Addr) (m bcap : Nat) (B : Nat → Bool) (lo : Option Addr) (l lcap : Nat) (S : Nat → Sg) (hn : n ≤ 9223372036854775807) (hm : m ≤ 9223372036854775807) (hl : l ≤ 9223372036854775807) (e : Int) (h : BErr Wd Hd n m Z B l S e) (w : World) (hT : Tab w) (hI : Ints w ao n Z) (hB : Bools w bo m B) (hS : SigsAt w lo l S) :
    Calls Tryd.prog 19 #[rv Wd Hd (.slice ao n cap) (.slice bo m bcap), .slice lo l lcap] w fun r w' => r = .returned (.int .i64 e) ∧ Below w.heap.size w w' := by
  have HM := hid (rb_start (Wd := Wd) (Hd := Hd) (cap := cap) (bcap := bcap) hT hI hB)
  have HS := hid hS
  clear hI hS hT hB
  rcases h with ⟨h0, hv⟩ | ⟨hg, h⟩
  · have HV := hid hv
    have g : (e != 0) = true := by simpa using h0
    have g2 : (e == 0) = false := by simpa using h0
    clear hv
    go_enter Tryd.func19, Tryd.ntmps19
    go_upto_region 1 with fail
    generalize World.alloc w _ = wm at HM ⊢
    have c0 := HM.out.c0; have c1 := HM.out.c1; have c2 := HM.out.c2; have c3 := HM.out.c3; have hz := HM.out.size
    go_wp2_with (go_at_call 52; (with_reducible refine (validate_any Wd Hd ao n cap Z bo m bcap B hn hm _ HM.out.ints HM.out.bools e HV.out).mono ?_); rintro e w1 ⟨rfl, hb⟩; have HN := hid (HM.out.stays hb); clear hb c0 c1 c2 c3 hz HM; have HM := HN; clear HN; have c0 := HM.out.c0; have c1 := HM.out.c1; have c2 := HM.out.c2; have c3 := HM.out.c3; have hz := HM.out.size)
    go_ret
    exact ⟨rfl, HM.out.below⟩
  · have HV : Hid (VErr Wd Hd n m Z B 0) := hid (.inl ⟨rfl, hg⟩)
    have HZ : Hid (∀ i, i < n → 0 ≤ Z i ∧ Z i ≤ 63) := hid (fun i hi => ⟨(hg.fine i hi).1, (hg.fine i hi).2.1⟩)
    clear hg
    by_cases hfew : l ≤ 300
    · obtain ⟨P, hP⟩ := dec_of fun j => 0 ≤ (S j).k ∧ (S j).k ≤ 5
      obtain ⟨Q, hQ⟩ := dec_of fun j => IsSpot n Z (S j).t (S j).p (S j).o
      have HP := (fun (wq : World) (j : Nat) (_ : j < l) (wr : World) (_ : Below wq.heap.size wq wr) => wrong_any (S j) (P j) (hP j) wr)
      have HQ := (fun (wq : World) (hq : RB Wd Hd ao n cap Z bo m bcap B w wq) (j : Nat) (_ : j < l) (wr : World) (hb : Below wq.heap.size wq wr) =>
        have h' := hq.stays hb
        off_any Wd Hd ao n cap Z (.slice bo m bcap) HZ.out w.heap.size (S j) (Q j) (hQ j) wr h'.tab h'.ints h'.c0 h'.c1 h'.c2 h'.c3 h'.size)
      obtain ⟨a, ha⟩ : ∃ a : Bool, a = true ↔ AscS l S := by
        by_cases h : AscS l S
        · exact ⟨true, fun _ => h, fun _ => rfl⟩
        · exact ⟨false, fun k => (by cases k), fun k => absurd k h⟩
      obtain ⟨k, hk⟩ : ∃ k : Bool, k = false ↔ ∀ i, i < l → 0 ≤ (S i).k ∧ (S i).k ≤ 5 := by
        by_cases h : ∀ i, i < l → 0 ≤ (S i).k ∧ (S i).k ≤ 5
        · exact ⟨false, fun _ => h, fun _ => rfl⟩
        · exact ⟨true, fun k => (by cases k), fun k => absurd k h⟩
      obtain ⟨o, ho⟩ : ∃ o : Bool, o = false ↔ Stand n Z l S := by
        by_cases h : Stand n Z l S
        · exact ⟨false, fun _ => h, fun _ => rfl⟩
        · exact ⟨true, fun k => (by cases k), fun k => absurd k h⟩
      have he : e = if a = true ∧ k = false then (if o = false then 0 else 2) else 1 := by
        by_cases h1 : a = true ∧ k = false
        · have hs : SOk l S := ⟨hfew, ha.1 h1.1, hk.1 h1.2⟩
          rw [if_pos h1]
          by_cases h2 : o = false
          · rw [if_pos h2]
            rcases h with ⟨_, h⟩ | ⟨_, _, h⟩ | ⟨h, _⟩
            · exact absurd hs h
            · exact absurd (ho.1 h2) h
            · exact h
          · rw [if_neg h2]
            rcases h with ⟨_, h⟩ | ⟨h, _⟩ | ⟨_, _, h⟩
            · exact absurd hs h
            · exact h
            · exact absurd (ho.2 h) h2
        · rw [if_neg h1]
          rcases h with ⟨h, _⟩ | ⟨_, h, _⟩ | ⟨_, h, _⟩
          · exact h
          · exact absurd ⟨ha.2 h.asc, hk.2 h.kind⟩ h1
          · exact absurd ⟨ha.2 h.asc, hk.2 h.kind⟩ h1
      have HA := hid (fun wq hS => ascends_any lo l lcap S hfew a ha wq hS)
      have HK := hid (fun wq hS => contains_wrong lo l lcap S hfew P wq hS (HP wq) k (none_of hP l k hk))
      have HO := hid (fun wq hS hq => contains_off lo l lcap S hfew w.heap.size Q wq hS (HQ wq hq) o (none_of hQ l o ho))
      clear h ha hk ho hP hQ HP HQ
      have hfew2 : (l : Int) ≤ 300 := by omega
      cases a <;> cases k <;> cases o <;> simp at he <;> subst he
      all_goals
        go_enter Tryd.func19, Tryd.ntmps19
        go_upto_region 1 with fail
        generalize World.alloc w _ = wm at HM ⊢
        have c0 := HM.out.c0; have c1 := HM.out.c1; have c2 := HM.out.c2; have c3 := HM.out.c3; have hz := HM.out.size
        go_wp2_with (first
          | (go_at_call 52; (with_reducible refine (validate_any Wd Hd ao n cap Z bo m bcap B hn hm _ HM.out.ints HM.out.bools 0 HV.out).mono ?_); rintro e w1 ⟨rfl, hb⟩; have HN := hid (HM.out.stays hb); clear hb c0 c1 c2 c3 hz HM; have HM := HN; clear HN; have c0 := HM.out.c0; have c1 := HM.out.c1; have c2 := HM.out.c2; have c3 := HM.out.c3; have hz := HM.out.size)
          | (go_at_call 58; refine (HA.out _ (HS.out.stays HM.out.below)).mono ?_; rintro e w1 ⟨rfl, hb⟩; have HN := hid (HM.out.stays hb); clear hb c0 c1 c2 c3 hz HM; have HM := HN; clear HN; have c0 := HM.out.c0; have c1 := HM.out.c1; have c2 := HM.out.c2; have c3 := HM.out.c3; have hz := HM.out.size)
          | (go_at_call 59; (first | (with_reducible refine (HK.out _ (HS.out.stays HM.out.below)).mono ?_) | (with_reducible refine (HO.out _ (HS.out.stays HM.out.below) HM.out).mono ?_)); rintro e w1 ⟨rfl, hb⟩; have HN := hid (HM.out.stays hb); clear hb c0 c1 c2 c3 hz HM; have HM := HN; clear HN; have c0 := HM.out.c0; have c1 := HM.out.c1; have c2 := HM.out.c2; have c3 := HM.out.c3; have hz := HM.out.size))
        go_ret
        exact ⟨rfl, HM.out.below⟩
    · have he : e = 1 := by
        rcases h with ⟨h, _⟩ | ⟨_, h, _⟩ | ⟨_, h, _⟩
        · exact h
        · exact absurd h.few hfew
        · exact absurd h.few hfew
      subst he
      have hmany : (300 : Int) < (l : Int) := by omega
      clear h
      go_enter Tryd.func19, Tryd.ntmps19
      go_upto_region 1 with fail
      generalize World.alloc w _ = wm at HM ⊢
      have c0 := HM.out.c0; have c1 := HM.out.c1; have c2 := HM.out.c2; have c3 := HM.out.c3; have hz := HM.out.size
      go_wp2_with (go_at_call 52; (with_reducible refine (validate_any Wd Hd ao n cap Z bo m bcap B hn hm _ HM.out.ints HM.out.bools 0 HV.out).mono ?_); rintro e w1 ⟨rfl, hb⟩; have HN := hid (HM.out.stays hb); clear hb c0 c1 c2 c3 hz HM; have HM := HN; clear HN; have c0 := HM.out.c0; have c1 := HM.out.c1; have c2 := HM.out.c2; have c3 := HM.out.c3; have hz := HM.out.size)
      go_ret
      exact ⟨rfl, HM.out.below⟩
end Go.Proofs.YtbfpcolkbfljoaaDoor
