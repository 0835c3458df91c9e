/-
  The first error of a land and a list of spans: the walks of validateList of the program, of listError of the reference.
-/
import Derived.Test.YtpohhcmkkjcelaaSList
import Derived.Test.YtpohhcmkkjcelaaSRVal
namespace Go.Proofs.Ytpohhcmkkjcelaa
open Go.RowKit

/-- The list ascends; its spans are right. -/
def Asc (m : Nat) (S : Nat → Sp) : Prop := ∀ i, i + 1 < m → Less (S i) (S (i + 1))
def Rts (W H : Nat) (Z : Nat → Int) (m : Nat) (S : Nat → Sp) : Prop := ∀ i, i < m → SErr W H Z (S i).k (S i).a (S i).b (S i).u 0
/-- The first error of a land and a list. -/
def LErr (W H : Int) (n : Nat) (Z : Nat → Int) (m : Nat) (S : Nat → Sp) (e : Int) : Prop :=
  (e ≠ 0 ∧ VErr W H n Z e) ∨ ∃ W' H' : Nat, W = W' ∧ H = H' ∧ Good W' H' n Z ∧ ((e = 1 ∧ ¬ (Asc m S ∧ Rts W' H' Z m S)) ∨ (e = 0 ∧ Asc m S ∧ Rts W' H' Z m S))
theorem LErr.ex (W H : Int) (n : Nat) (Z : Nat → Int) (m : Nat) (S : Nat → Sp) : ∃ e, LErr W H n Z m S e := by
  obtain ⟨e, he⟩ := VErr.ex W H n Z
  by_cases h0 : e = 0
  · subst h0
    obtain ⟨W', H', rfl, rfl, hg⟩ := he.ok.good
    by_cases h : Asc m S ∧ Rts W' H' Z m S
    · exact ⟨0, .inr ⟨W', H', rfl, rfl, hg, .inr ⟨rfl, h.1, h.2⟩⟩⟩
    · exact ⟨1, .inr ⟨W', H', rfl, rfl, hg, .inl ⟨rfl, h⟩⟩⟩
  · exact ⟨e, .inl ⟨h0, he⟩⟩
theorem LErr.right {W H : Int} {n : Nat} {Z : Nat → Int} {m : Nat} {S : Nat → Sp} (h : LErr W H n Z m S 0) : ∃ W' H' : Nat, W = W' ∧ H = H' ∧ Good W' H' n Z ∧ Asc m S ∧ Rts W' H' Z m S := by
  rcases h with ⟨h, _⟩ | ⟨W', H', e1, e2, hg, ⟨h, _⟩ | ⟨_, h1, h2⟩⟩
  · exact absurd rfl h
  · cases h
  · exact ⟨W', H', e1, e2, hg, h1, h2⟩

/-- Two spans beside each other in a list, for the walk. -/
theorem two_keep {w0 : World} {bl : Nat} {S : Nat → Sp} {i j x y : Nat} {wr w' : World} (hz : bl < w0.heap.size) (D : (w0.cell? ⟨bl, x, none⟩ = some (.int .i64 (S i).k) ∧ w0.cell? ⟨bl, x + 1, none⟩ = some (.int .i64 (S i).a) ∧ w0.cell? ⟨bl, x + 2, none⟩ = some (.int .i64 (S i).b) ∧ w0.cell? ⟨bl, x + 3, none⟩ = some (.int .i64 (S i).u)) ∧ (w0.cell? ⟨bl, y, none⟩ = some (.int .i64 (S j).k) ∧ w0.cell? ⟨bl, y + 1, none⟩ = some (.int .i64 (S j).a) ∧ w0.cell? ⟨bl, y + 2, none⟩ = some (.int .i64 (S j).b) ∧ w0.cell? ⟨bl, y + 3, none⟩ = some (.int .i64 (S j).u))) {P : Prop} (h : Below w0.heap.size w0 wr ∧ P) (hb : Below wr.heap.size wr w') :
    Below w0.heap.size w0 w' ∧ (w'.cell? ⟨bl, x, none⟩ = some (.int .i64 (S i).k) ∧ w'.cell? ⟨bl, x + 1, none⟩ = some (.int .i64 (S i).a) ∧ w'.cell? ⟨bl, x + 2, none⟩ = some (.int .i64 (S i).b) ∧ w'.cell? ⟨bl, x + 3, none⟩ = some (.int .i64 (S i).u)) ∧ (w'.cell? ⟨bl, y, none⟩ = some (.int .i64 (S j).k) ∧ w'.cell? ⟨bl, y + 1, none⟩ = some (.int .i64 (S j).a) ∧ w'.cell? ⟨bl, y + 2, none⟩ = some (.int .i64 (S j).b) ∧ w'.cell? ⟨bl, y + 3, none⟩ = some (.int .i64 (S j).u)) :=
  have q := h.1.trans (hb.mono h.1.size)
  have c : ∀ (i : Nat) (v : Value), w0.cell? ⟨bl, i, none⟩ = some v → w'.cell? ⟨bl, i, none⟩ = some v := fun i _ e => (q.cell (p := ⟨bl, i, none⟩) hz).trans e
  ⟨q, ⟨c _ _ D.1.1, c _ _ D.1.2.1, c _ _ D.1.2.2.1, c _ _ D.1.2.2.2⟩, ⟨c _ _ D.2.1, c _ _ D.2.2.1, c _ _ D.2.2.2.1, c _ _ D.2.2.2.2⟩⟩

set_option maxRecDepth 20000 in
set_option maxHeartbeats 6400000 in
theorem ascends_any (lo : Option Addr) (m lcap : Nat) (S : Nat → Sp) (hm : m ≤ 300) (r : Bool) (hr : r = true ↔ Asc m S) (w : World) (hS : SpansAt w lo m S) :
    Calls Try.prog 71 #[.slice lo m lcap] w fun e w' => e = .returned (.bool r) ∧ Below w.heap.size w w' := by
  have HR := hid hr
  have HS := hid hS
  clear hr hS
  have hm0 : (0 : Int) ≤ (m : Int) := by omega
  go_enter Try.func71, Try.ntmps71
  go_wp2_with fail
  go_loopw [3] (fun iv wr => ∃ i : Nat, (i ≤ m ∨ i = 1) ∧ 1 ≤ i ∧ iv = .int .i64 i ∧ Hid (∀ j, j + 1 < i → Less (S j) (S (j + 1))) ∧ Hid (Below w.heap.size w wr)) (fun iv _ => m + 1 - (intOf iv).toNat)
  case atStart => exact ⟨1, .inr rfl, Nat.le_refl _, rfl, hid (fun j hj => by omega), hid (Below.refl _ _)⟩
  case round =>
    obtain ⟨i, hi, hi1, rfl, hk, hB⟩ := hrel
    by_cases hlt : i < m
    · obtain ⟨bl, off, rfl, hbz, hc⟩ := HS.out.one (by omega)
      have D := hid (And.intro (hc (i - 1) (by omega)) (hc i hlt))
      clear hc
      obtain ⟨x, hx⟩ : ∃ x, x = off + (i - 1) * 4 := ⟨_, rfl⟩
      obtain ⟨y, hy⟩ : ∃ y, y = off + i * 4 := ⟨_, rfl⟩
      obtain ⟨j, hj⟩ : ∃ j, j = i - 1 := ⟨_, rfl⟩
      rw [← hx, ← hy] at D
      rw [← hj] at D hx
      have a1 : (0 : Int) ≤ (i : Int) - 1 := by omega
      have a2 : (i : Int) - 1 < (m : Int) := by omega
      have a3 : (0 : Int) ≤ (i : Int) := by omega
      have a7 : (1 : Int) ≤ (i : Int) := by omega
      have a4 : (i : Int) < (m : Int) := by omega
      have a5 : ((i : Int) - 1).toNat = j := by omega
      have a6 : IntKind.i64.wrap ((i : Int) - 1) = (i : Int) - 1 := by rw [IntKind.wrap_i64]; omega
      have ex : off + j * 4 = x := hx.symm
      have ey : off + i * 4 = y := hy.symm
      obtain ⟨c, hcc⟩ : ∃ c, c = cmpS (S j) (S i) := ⟨_, rfl⟩
      have HC := hid hcc
      have HJ := hid hj
      clear hx hy hcc hj
      by_cases hneg : c < 0
      · have HL : Hid (Less (S j) (S i)) := hid (by rw [← cmp_neg, ← HC.out]; exact hneg)
        go_upto_region 4 with fail
        refine wp_region_held_drew (S := (fun wr => Below w.heap.size w wr ∧ (wr.cell? ⟨bl, x, none⟩ = some (.int .i64 (S j).k) ∧ wr.cell? ⟨bl, x + 1, none⟩ = some (.int .i64 (S j).a) ∧ wr.cell? ⟨bl, x + 2, none⟩ = some (.int .i64 (S j).b) ∧ wr.cell? ⟨bl, x + 3, none⟩ = some (.int .i64 (S j).u)) ∧ (wr.cell? ⟨bl, y, none⟩ = some (.int .i64 (S i).k) ∧ wr.cell? ⟨bl, y + 1, none⟩ = some (.int .i64 (S i).a) ∧ wr.cell? ⟨bl, y + 2, none⟩ = some (.int .i64 (S i).b) ∧ wr.cell? ⟨bl, y + 3, none⟩ = some (.int .i64 (S i).u)))) (by kernel_rfl) (two_keep hbz D.out (And.intro hB.out trivial) ((Below.refl _ _).drew)) (fun hHeld => ?_)
        refine wpAnyH_take (i := 0) (oi := { dst := some 10, op := Op.move (Operand.tmp 0), type := 34, pos := "list.go:120", after := #[], guard := none }) (v := ?_) rfl (by kernel_rfl) (by kernel_rfl) (by kernel_rfl) (fun _ _ _ h => h) (Or.inl ⟨by rfl, ?_⟩) (by assumption) ?_
        rotate_left
        · intro w hSw; (try dsimp only at hSw); go_simp; try (with_reducible rfl)
        try simp only [Act.put, List.setIfInBounds_toArray, List.set_cons_zero, List.set_cons_succ]
        refine wpAnyH_take (i := 1) (oi := { dst := some 11, op := Op.move (Operand.tmp 3), type := 3, pos := "list.go:120", after := #[], guard := none }) (v := ?_) rfl (by kernel_rfl) (by kernel_rfl) (by kernel_rfl) (fun _ _ _ h => h) (Or.inl ⟨by rfl, ?_⟩) (by assumption) ?_
        rotate_left
        · intro w hSw; (try dsimp only at hSw); go_simp; try (with_reducible rfl)
        try simp only [Act.put, List.setIfInBounds_toArray, List.set_cons_zero, List.set_cons_succ]
        refine wpAnyH_take (i := 2) (oi := { dst := some 12, op := Op.binOp BinOp.sub 3 (Operand.tmp 11) (Operand.const (Value.int IntKind.i64 1)) 3, type := 3, pos := "list.go:120", after := #[{ on := 1, ground := Ground.data }], guard := none }) (v := ?_) rfl (by kernel_rfl) (by kernel_rfl) (by kernel_rfl) (fun _ _ _ h => h) (Or.inl ⟨by rfl, ?_⟩) (by assumption) ?_
        rotate_left
        · intro w hSw; (try dsimp only at hSw); go_simp; try (with_reducible rfl)
        try simp only [Act.put, List.setIfInBounds_toArray, List.set_cons_zero, List.set_cons_succ]
        refine wpAnyH_take (i := 3) (oi := { dst := some 13, op := Op.indexAddr 34 (Operand.tmp 10) (Operand.tmp 12), type := 0, pos := "list.go:120", after := #[{ on := 0, ground := Ground.data }, { on := 2, ground := Ground.data }], guard := none }) (v := ?_) rfl (by kernel_rfl) (by kernel_rfl) (by kernel_rfl) (fun _ _ _ h => h) (Or.inl ⟨by rfl, ?_⟩) (by assumption) ?_
        rotate_left
        · intro w hSw; (try dsimp only at hSw); go_simp; try (with_reducible rfl)
        try simp only [Act.put, List.setIfInBounds_toArray, List.set_cons_zero, List.set_cons_succ]
        refine wpAnyH_take (i := 4) (oi := { dst := some 14, op := Op.load 26 (Operand.tmp 13), type := 26, pos := "list.go:120", after := #[{ on := 3, ground := Ground.data }], guard := none }) (v := ?_) rfl (by kernel_rfl) (by kernel_rfl) (by kernel_rfl) (fun _ _ _ h => h) (Or.inl ⟨by rfl, ?_⟩) (by assumption) ?_
        rotate_left
        · intro w hSw; (try dsimp only at hSw); go_simp; try (with_reducible rfl)
        try simp only [Act.put, List.setIfInBounds_toArray, List.set_cons_zero, List.set_cons_succ]
        refine wpAnyH_take (i := 5) (oi := { dst := some 15, op := Op.move (Operand.tmp 0), type := 34, pos := "list.go:120", after := #[], guard := none }) (v := ?_) rfl (by kernel_rfl) (by kernel_rfl) (by kernel_rfl) (fun _ _ _ h => h) (Or.inl ⟨by rfl, ?_⟩) (by assumption) ?_
        rotate_left
        · intro w hSw; (try dsimp only at hSw); go_simp; try (with_reducible rfl)
        try simp only [Act.put, List.setIfInBounds_toArray, List.set_cons_zero, List.set_cons_succ]
        refine wpAnyH_take (i := 6) (oi := { dst := some 16, op := Op.move (Operand.tmp 3), type := 3, pos := "list.go:120", after := #[], guard := none }) (v := ?_) rfl (by kernel_rfl) (by kernel_rfl) (by kernel_rfl) (fun _ _ _ h => h) (Or.inl ⟨by rfl, ?_⟩) (by assumption) ?_
        rotate_left
        · intro w hSw; (try dsimp only at hSw); go_simp; try (with_reducible rfl)
        try simp only [Act.put, List.setIfInBounds_toArray, List.set_cons_zero, List.set_cons_succ]
        refine wpAnyH_take (i := 7) (oi := { dst := some 17, op := Op.indexAddr 34 (Operand.tmp 15) (Operand.tmp 16), type := 0, pos := "list.go:120", after := #[{ on := 5, ground := Ground.data }, { on := 6, ground := Ground.data }], guard := none }) (v := ?_) rfl (by kernel_rfl) (by kernel_rfl) (by kernel_rfl) (fun _ _ _ h => h) (Or.inl ⟨by rfl, ?_⟩) (by assumption) ?_
        rotate_left
        · intro w hSw; (try dsimp only at hSw); go_simp; try (with_reducible rfl)
        try simp only [Act.put, List.setIfInBounds_toArray, List.set_cons_zero, List.set_cons_succ]
        refine wpAnyH_take (i := 8) (oi := { dst := some 18, op := Op.load 26 (Operand.tmp 17), type := 26, pos := "list.go:120", after := #[{ on := 7, ground := Ground.data }], guard := none }) (v := ?_) rfl (by kernel_rfl) (by kernel_rfl) (by kernel_rfl) (fun _ _ _ h => h) (Or.inl ⟨by rfl, ?_⟩) (by assumption) ?_
        rotate_left
        · intro w hSw; (try dsimp only at hSw); go_simp; try (with_reducible rfl)
        try simp only [Act.put, List.setIfInBounds_toArray, List.set_cons_zero, List.set_cons_succ]
        refine wpAnyH_ready (rs := [9]) (by kernel_rfl) (by simp) ?_
        refine AllReadyH.cons (o := { dst := some 19, op := Op.call { callee := Callee.value (Operand.func 55), args := #[Operand.tmp 14, Operand.tmp 18], argTypes := #[26, 26] }, type := 3, pos := "list.go:120", after := #[{ on := 4, ground := Ground.data }, { on := 8, ground := Ground.data }], guard := none }) rfl (fun K hK => ?_) AllReadyH.nil
        go_simp
        refine (compare_any (S j) (S i) c HC.out _).mono ?_
        rintro r w' ⟨rfl, hb⟩
        try go_wp2_with fail
        refine hK.out _ _ (two_keep hbz D.out (by assumption) hb) (fun hHeld2 => ?_)
        clear hK K
        try simp only [Act.put, List.setIfInBounds_toArray, List.set_cons_zero, List.set_cons_succ]
        refine wpAnyH_take (i := 10) (oi := { dst := some 20, op := Op.binOp BinOp.geq 3 (Operand.tmp 19) (Operand.const (Value.int IntKind.i64 0)) 3, type := 4, pos := "list.go:120", after := #[{ on := 9, ground := Ground.data }], guard := none }) (v := ?_) rfl (by kernel_rfl) (by kernel_rfl) (by kernel_rfl) (fun _ _ _ h => h) (Or.inl ⟨by rfl, ?_⟩) (by assumption) ?_
        rotate_left
        · intro w hSw; (try dsimp only at hSw); go_simp; try (with_reducible rfl)
        try simp only [Act.put, List.setIfInBounds_toArray, List.set_cons_zero, List.set_cons_succ]
        refine wpAnyH_done (by kernel_rfl) ?_ _
        have hBB := hid (And.left (by assumption : Below w.heap.size w _ ∧ _))
        clear a1 a2 a3 a4 a5 a6 a7 ex ey D
        go_wp2_with fail
        go_roundw
        case rel =>
          refine ⟨i + 1, .inl (by omega), by omega, by go_num, hid (fun q hq => ?_), hBB⟩
          by_cases h : q + 1 < i
          · exact hk.out q h
          · obtain rfl : q = j := by have := HJ.out; omega
            rw [show q + 1 = i from by have := HJ.out; omega]; exact HL.out
        case measure => simp [intOf]; omega
      · have hrf : r = false := by
          rw [Bool.eq_false_iff]; intro h
          have := HR.out.1 h j (by have := HJ.out; omega)
          rw [show j + 1 = i from by have := HJ.out; omega, ← cmp_neg, ← HC.out] at this
          exact hneg this
        subst hrf
        have hge : 0 ≤ c := by omega
        go_upto_region 4 with fail
        refine wp_region_held_drew (S := (fun wr => Below w.heap.size w wr ∧ (wr.cell? ⟨bl, x, none⟩ = some (.int .i64 (S j).k) ∧ wr.cell? ⟨bl, x + 1, none⟩ = some (.int .i64 (S j).a) ∧ wr.cell? ⟨bl, x + 2, none⟩ = some (.int .i64 (S j).b) ∧ wr.cell? ⟨bl, x + 3, none⟩ = some (.int .i64 (S j).u)) ∧ (wr.cell? ⟨bl, y, none⟩ = some (.int .i64 (S i).k) ∧ wr.cell? ⟨bl, y + 1, none⟩ = some (.int .i64 (S i).a) ∧ wr.cell? ⟨bl, y + 2, none⟩ = some (.int .i64 (S i).b) ∧ wr.cell? ⟨bl, y + 3, none⟩ = some (.int .i64 (S i).u)))) (by kernel_rfl) (two_keep hbz D.out (And.intro hB.out trivial) ((Below.refl _ _).drew)) (fun hHeld => ?_)
        refine wpAnyH_take (i := 0) (oi := { dst := some 10, op := Op.move (Operand.tmp 0), type := 34, pos := "list.go:120", after := #[], guard := none }) (v := ?_) rfl (by kernel_rfl) (by kernel_rfl) (by kernel_rfl) (fun _ _ _ h => h) (Or.inl ⟨by rfl, ?_⟩) (by assumption) ?_
        rotate_left
        · intro w hSw; (try dsimp only at hSw); go_simp; try (with_reducible rfl)
        try simp only [Act.put, List.setIfInBounds_toArray, List.set_cons_zero, List.set_cons_succ]
        refine wpAnyH_take (i := 1) (oi := { dst := some 11, op := Op.move (Operand.tmp 3), type := 3, pos := "list.go:120", after := #[], guard := none }) (v := ?_) rfl (by kernel_rfl) (by kernel_rfl) (by kernel_rfl) (fun _ _ _ h => h) (Or.inl ⟨by rfl, ?_⟩) (by assumption) ?_
        rotate_left
        · intro w hSw; (try dsimp only at hSw); go_simp; try (with_reducible rfl)
        try simp only [Act.put, List.setIfInBounds_toArray, List.set_cons_zero, List.set_cons_succ]
        refine wpAnyH_take (i := 2) (oi := { dst := some 12, op := Op.binOp BinOp.sub 3 (Operand.tmp 11) (Operand.const (Value.int IntKind.i64 1)) 3, type := 3, pos := "list.go:120", after := #[{ on := 1, ground := Ground.data }], guard := none }) (v := ?_) rfl (by kernel_rfl) (by kernel_rfl) (by kernel_rfl) (fun _ _ _ h => h) (Or.inl ⟨by rfl, ?_⟩) (by assumption) ?_
        rotate_left
        · intro w hSw; (try dsimp only at hSw); go_simp; try (with_reducible rfl)
        try simp only [Act.put, List.setIfInBounds_toArray, List.set_cons_zero, List.set_cons_succ]
        refine wpAnyH_take (i := 3) (oi := { dst := some 13, op := Op.indexAddr 34 (Operand.tmp 10) (Operand.tmp 12), type := 0, pos := "list.go:120", after := #[{ on := 0, ground := Ground.data }, { on := 2, ground := Ground.data }], guard := none }) (v := ?_) rfl (by kernel_rfl) (by kernel_rfl) (by kernel_rfl) (fun _ _ _ h => h) (Or.inl ⟨by rfl, ?_⟩) (by assumption) ?_
        rotate_left
        · intro w hSw; (try dsimp only at hSw); go_simp; try (with_reducible rfl)
        try simp only [Act.put, List.setIfInBounds_toArray, List.set_cons_zero, List.set_cons_succ]
        refine wpAnyH_take (i := 4) (oi := { dst := some 14, op := Op.load 26 (Operand.tmp 13), type := 26, pos := "list.go:120", after := #[{ on := 3, ground := Ground.data }], guard := none }) (v := ?_) rfl (by kernel_rfl) (by kernel_rfl) (by kernel_rfl) (fun _ _ _ h => h) (Or.inl ⟨by rfl, ?_⟩) (by assumption) ?_
        rotate_left
        · intro w hSw; (try dsimp only at hSw); go_simp; try (with_reducible rfl)
        try simp only [Act.put, List.setIfInBounds_toArray, List.set_cons_zero, List.set_cons_succ]
        refine wpAnyH_take (i := 5) (oi := { dst := some 15, op := Op.move (Operand.tmp 0), type := 34, pos := "list.go:120", after := #[], guard := none }) (v := ?_) rfl (by kernel_rfl) (by kernel_rfl) (by kernel_rfl) (fun _ _ _ h => h) (Or.inl ⟨by rfl, ?_⟩) (by assumption) ?_
        rotate_left
        · intro w hSw; (try dsimp only at hSw); go_simp; try (with_reducible rfl)
        try simp only [Act.put, List.setIfInBounds_toArray, List.set_cons_zero, List.set_cons_succ]
        refine wpAnyH_take (i := 6) (oi := { dst := some 16, op := Op.move (Operand.tmp 3), type := 3, pos := "list.go:120", after := #[], guard := none }) (v := ?_) rfl (by kernel_rfl) (by kernel_rfl) (by kernel_rfl) (fun _ _ _ h => h) (Or.inl ⟨by rfl, ?_⟩) (by assumption) ?_
        rotate_left
        · intro w hSw; (try dsimp only at hSw); go_simp; try (with_reducible rfl)
        try simp only [Act.put, List.setIfInBounds_toArray, List.set_cons_zero, List.set_cons_succ]
        refine wpAnyH_take (i := 7) (oi := { dst := some 17, op := Op.indexAddr 34 (Operand.tmp 15) (Operand.tmp 16), type := 0, pos := "list.go:120", after := #[{ on := 5, ground := Ground.data }, { on := 6, ground := Ground.data }], guard := none }) (v := ?_) rfl (by kernel_rfl) (by kernel_rfl) (by kernel_rfl) (fun _ _ _ h => h) (Or.inl ⟨by rfl, ?_⟩) (by assumption) ?_
        rotate_left
        · intro w hSw; (try dsimp only at hSw); go_simp; try (with_reducible rfl)
        try simp only [Act.put, List.setIfInBounds_toArray, List.set_cons_zero, List.set_cons_succ]
        refine wpAnyH_take (i := 8) (oi := { dst := some 18, op := Op.load 26 (Operand.tmp 17), type := 26, pos := "list.go:120", after := #[{ on := 7, ground := Ground.data }], guard := none }) (v := ?_) rfl (by kernel_rfl) (by kernel_rfl) (by kernel_rfl) (fun _ _ _ h => h) (Or.inl ⟨by rfl, ?_⟩) (by assumption) ?_
        rotate_left
        · intro w hSw; (try dsimp only at hSw); go_simp; try (with_reducible rfl)
        try simp only [Act.put, List.setIfInBounds_toArray, List.set_cons_zero, List.set_cons_succ]
        refine wpAnyH_ready (rs := [9]) (by kernel_rfl) (by simp) ?_
        refine AllReadyH.cons (o := { dst := some 19, op := Op.call { callee := Callee.value (Operand.func 55), args := #[Operand.tmp 14, Operand.tmp 18], argTypes := #[26, 26] }, type := 3, pos := "list.go:120", after := #[{ on := 4, ground := Ground.data }, { on := 8, ground := Ground.data }], guard := none }) rfl (fun K hK => ?_) AllReadyH.nil
        go_simp
        refine (compare_any (S j) (S i) c HC.out _).mono ?_
        rintro r w' ⟨rfl, hb⟩
        try go_wp2_with fail
        refine hK.out _ _ (two_keep hbz D.out (by assumption) hb) (fun hHeld2 => ?_)
        clear hK K
        try simp only [Act.put, List.setIfInBounds_toArray, List.set_cons_zero, List.set_cons_succ]
        refine wpAnyH_take (i := 10) (oi := { dst := some 20, op := Op.binOp BinOp.geq 3 (Operand.tmp 19) (Operand.const (Value.int IntKind.i64 0)) 3, type := 4, pos := "list.go:120", after := #[{ on := 9, ground := Ground.data }], guard := none }) (v := ?_) rfl (by kernel_rfl) (by kernel_rfl) (by kernel_rfl) (fun _ _ _ h => h) (Or.inl ⟨by rfl, ?_⟩) (by assumption) ?_
        rotate_left
        · intro w hSw; (try dsimp only at hSw); go_simp; try (with_reducible rfl)
        try simp only [Act.put, List.setIfInBounds_toArray, List.set_cons_zero, List.set_cons_succ]
        refine wpAnyH_done (by kernel_rfl) ?_ _
        have hBB := hid (And.left (by assumption : Below w.heap.size w _ ∧ _))
        clear a1 a2 a3 a4 a5 a6 a7 ex ey D
        go_wp2_with fail
        go_ret
        exact ⟨rfl, hBB.out⟩
    · have hrt : r = true := HR.out.2 fun q hq => hk.out q (by omega)
      subst hrt
      go_wp2_with fail
      go_ret
      exact ⟨rfl, hB.out⟩

set_option maxHeartbeats 1600000 in
theorem wrong_any {W H : Nat} (ao : Option Addr) (n cap : Nat) (Z : Nat → Int) (hg : Good W H n Z) (X : Nat) (k a b u : Int) (r : Bool) (hr : r = false ↔ SErr W H Z k a b u 0) (w : World) (hI : Ints w ao n Z)
    (x0 : w.cell? ⟨X, 0, none⟩ = some (.int .i64 W)) (x1 : w.cell? ⟨X, 1, none⟩ = some (.int .i64 H)) (x2 : w.cell? ⟨X, 2, none⟩ = some (.slice ao n cap)) (hXz : X < w.heap.size) :
    Calls Try.prog 70 #[sv k a b u, .pointer (some ⟨X, 0, none⟩)] w fun e w' => e = .returned (.bool r) ∧ Below w.heap.size w w' := by
  obtain ⟨e, he⟩ := SErr.ex W H Z k a b u
  have HE := hid he
  have HG := hid hg
  have HB := hid (Joins.below_alloc1 w (.cells #[.int .i64 k, .int .i64 a, .int .i64 b, .int .i64 u] 26))
  have HI := hid (hI.stays HB.out)
  have HR := hid hr
  clear hI he hr hg
  by_cases h0 : e = 0
  · subst h0
    have hrf : r = false := HR.out.2 HE.out
    subst hrf
    go_enter Try.func70, Try.ntmps70
    go_wp2_with (go_at_call 32; refine (validateOn_to ao n cap Z HG.out k a b u 0 HE.out _ HI.out).mono ?_; rintro e w1 ⟨rfl, hb⟩)
    go_ret
    exact ⟨rfl, HB.out.trans (hb.mono HB.out.size)⟩
  · have hrt : r = true := by
      cases r with
      | true => rfl
      | false => exact absurd (HE.out.one0 (HR.out.1 rfl)) h0
    subst hrt
    have g1 : (e == 0) = false := by rw [beq_eq_false_iff_ne]; exact h0
    have g2 : (e != 0) = true := by simp [h0]
    go_enter Try.func70, Try.ntmps70
    go_wp2_with (go_at_call 32; refine (validateOn_to ao n cap Z HG.out k a b u e HE.out _ HI.out).mono ?_; rintro e w1 ⟨rfl, hb⟩)
    go_ret
    exact ⟨rfl, HB.out.trans (hb.mono HB.out.size)⟩

set_option maxRecDepth 20000 in
set_option maxHeartbeats 3200000 in
theorem index_wrong (lo : Option Addr) (m lcap : Nat) (S : Nat → Sp) (hm : m ≤ 300) (X : Nat) (P : Nat → Bool) (w : World) (hS : SpansAt w lo m S)
    (hP : ∀ j, j < m → ∀ wr, Below w.heap.size w wr → Calls Try.prog 70 #[svp (S j), .pointer (some ⟨X, 0, none⟩)] wr fun e w' => e = .returned (.bool (P j)) ∧ Below wr.heap.size wr w') (v : Int) (hv : (v = -1 ∧ ∀ j, j < m → P j = false) ∨ ∃ i : Nat, v = i ∧ i < m ∧ P i = true ∧ ∀ j, j < i → P j = false) :
    Calls Try.prog 37 #[.slice lo m lcap, .func (.func 70) #[] #[.pointer (some ⟨X, 0, none⟩)]] w fun e w' => e = .returned (.int .i64 v) ∧ Below w.heap.size w w' := by
  have HV := hid hv
  have HS := hid hS
  have HP := hid hP
  clear hv hS hP
  go_enter Try.func37, Try.ntmps37
  go_wp2_with fail
  go_loopw [8] (fun iv wr => ∃ i : Nat, i ≤ m ∧ iv = .int .i64 i ∧ Hid (∀ j, j < i → P j = false) ∧ Hid (Below w.heap.size w wr)) (fun iv _ => m - (intOf iv).toNat)
  case atStart => exact ⟨0, Nat.zero_le _, rfl, hid (fun j hj => by omega), hid (Below.refl _ _)⟩
  case round =>
    obtain ⟨i, hi, rfl, hk, hB⟩ := hrel
    by_cases hlt : i < m
    · obtain ⟨bl, off, rfl, hbz, c0, c1, c2, c3⟩ := (HS.out.stays hB.out) i hlt
      have HC := hid (HP.out i hlt wr hB.out)
      obtain ⟨p, hp⟩ : ∃ p, p = P i := ⟨_, rfl⟩
      rw [← hp] at HC
      have HPP := hid hp
      clear hp
      cases p
      · go_wp2_with (go_at_call 70; refine HC.out.mono ?_; rintro e w1 ⟨rfl, hb⟩; have HB1 := hid (hB.out.trans (hb.mono hB.out.size)); clear hb)
        go_roundw
        case rel =>
          refine ⟨i + 1, by omega, by go_num, hid (fun j hj => ?_), HB1⟩
          by_cases h : j < i
          · exact hk.out j h
          · obtain rfl : j = i := by omega
            exact HPP.out.symm
        case measure => simp [intOf]; omega
      · have hvi : Hid (v = i) := hid (by
          rcases HV.out with ⟨_, h⟩ | ⟨q, rfl, hq, h1, h2⟩
          · exact absurd (h i hlt) (by rw [← HPP.out]; simp)
          · by_cases h : q < i
            · rw [hk.out q h] at h1; cases h1
            · by_cases h' : i < q
              · exact absurd (h2 i h') (by rw [← HPP.out]; simp)
              · omega)
        go_wp2_with (go_at_call 70; refine HC.out.mono ?_; rintro e w1 ⟨rfl, hb⟩; have HB1 := hid (hB.out.trans (hb.mono hB.out.size)); clear hb)
        go_ret
        exact ⟨ret_int hvi.out.symm, HB1.out⟩
    · obtain rfl : i = m := by omega
      have hvi : Hid (v = -1) := hid (by
        rcases HV.out with ⟨h, _⟩ | ⟨q, rfl, hq, h1, h2⟩
        · exact h
        · rw [hk.out q hq] at h1; cases h1)
      go_wp2_with fail
      go_ret
      exact ⟨ret_int hvi.out.symm, hB.out⟩

set_option maxRecDepth 20000 in
set_option maxHeartbeats 3200000 in
theorem contains_wrong (lo : Option Addr) (m lcap : Nat) (S : Nat → Sp) (hm : m ≤ 300) (X : Nat) (P : Nat → Bool) (w : World) (hS : SpansAt w lo m S)
    (hP : ∀ j, j < m → ∀ wr, Below w.heap.size w wr → Calls Try.prog 70 #[svp (S j), .pointer (some ⟨X, 0, none⟩)] wr fun e w' => e = .returned (.bool (P j)) ∧ Below wr.heap.size wr w') (r : Bool) (hr : r = true ↔ ∃ j, j < m ∧ P j = true) :
    Calls Try.prog 72 #[.slice lo m lcap, .func (.func 70) #[] #[.pointer (some ⟨X, 0, none⟩)]] w fun e w' => e = .returned (.bool r) ∧ Below w.heap.size w w' := by
  have first : ∀ q, (∀ j, j < q → P j = false) ∨ ∃ i, i < q ∧ P i = true ∧ ∀ j, j < i → P j = false := by
    intro q
    induction q with
    | zero => exact .inl fun j hj => absurd hj (Nat.not_lt_zero j)
    | succ q ih =>
      rcases ih with h | ⟨i, h1, h2, h3⟩
      · cases hq : P q
        · refine .inl fun j hj => ?_
          by_cases h' : j < q
          · exact h j h'
          · obtain rfl : j = q := by omega
            exact hq
        · exact .inr ⟨q, Nat.lt_succ_self _, hq, h⟩
      · exact .inr ⟨i, by omega, h2, h3⟩
  rcases first m with h | ⟨i, h1, h2, h3⟩
  · have hrf : r = false := by
      rw [Bool.eq_false_iff, ne_eq, hr]
      rintro ⟨j, hj, h'⟩
      rw [h j hj] at h'; cases h'
    subst hrf
    have HX := hid (index_wrong lo m lcap S hm X P w hS hP (-1) (.inl ⟨rfl, h⟩))
    clear hP hr h hS first
    go_enter Try.func72, Try.ntmps72
    go_wp2_with (go_at_call 37; refine HX.out.mono ?_; rintro e w1 ⟨rfl, hb⟩)
    go_ret
    exact ⟨rfl, hb⟩
  · have hrt : r = true := hr.2 ⟨i, h1, h2⟩
    subst hrt
    have HX := hid (index_wrong lo m lcap S hm X P w hS hP i (.inr ⟨i, rfl, h1, h2, h3⟩))
    clear hP hr h2 h3 hS first
    go_enter Try.func72, Try.ntmps72
    go_wp2_with (go_at_call 37; refine HX.out.mono ?_; rintro e w1 ⟨rfl, hb⟩)
    go_ret
    exact ⟨rfl, hb⟩

set_option maxRecDepth 20000 in
set_option maxHeartbeats 6400000 in
theorem validateList_to (W H : Int) (ao : Option Addr) (n cap : Nat) (Z : Nat → Int) (hn : n ≤ 9223372036854775807) (lo : Option Addr) (m lcap : Nat) (S : Nat → Sp) (hm : m ≤ 300) (e : Int) (h : LErr W H n Z m S e) (w : World) (hI : Ints w ao n Z) (hS : SpansAt w lo m S) :
    Calls Try.prog 36 #[lv W H (.slice ao n cap), .slice lo m lcap] w fun r w' => r = .returned (.int .i64 e) ∧ Below w.heap.size w w' := by
  have HM := hid (lb_start (W := W) (H := H) (cap := cap) hI)
  have HS := hid hS
  clear hI hS
  rcases h with ⟨h0, hv⟩ | ⟨W', H', rfl, rfl, hg, h⟩
  · have HV := hid hv
    have g : (e != 0) = true := by simpa using h0
    have g2 : (e == 0) = false := by simpa using h0
    clear hv
    go_enter Try.func36, Try.ntmps36
    go_upto_region 1 with fail
    generalize World.alloc w _ = wm at HM ⊢
    have c0 := HM.out.c0; have c1 := HM.out.c1; have c2 := HM.out.c2; have hz := HM.out.size
    go_wp2_with (go_at_call 31; (with_reducible refine (validate_any W H ao n cap Z hn _ HM.out.ints e HV.out).mono ?_); rintro e w1 ⟨rfl, hb⟩; have HN := hid (HM.out.stays hb); clear hb c0 c1 c2 hz HM; have HM := HN; clear HN; have c0 := HM.out.c0; have c1 := HM.out.c1; have c2 := HM.out.c2; have hz := HM.out.size)
    go_ret
    exact ⟨rfl, HM.out.below⟩
  · have HV := hid hg.err
    have HG := hid hg
    have hdec : ∀ j, ∃ p : Bool, p = false ↔ SErr W' H' Z (S j).k (S j).a (S j).b (S j).u 0 := fun j => by
      by_cases h : SErr W' H' Z (S j).k (S j).a (S j).b (S j).u 0
      · exact ⟨false, fun _ => h, fun _ => rfl⟩
      · exact ⟨true, fun k => (by cases k), fun k => absurd k h⟩
    obtain ⟨P, hP⟩ : ∃ P : Nat → Bool, ∀ j, P j = false ↔ SErr W' H' Z (S j).k (S j).a (S j).b (S j).u 0 := ⟨fun j => (hdec j).choose, fun j => (hdec j).choose_spec⟩
    have HP := hid hP
    have hX : ∀ (wq : World), LB W' H' ao n cap Z w wq → ∀ j, j < m → ∀ wr, Below wq.heap.size wq wr → Calls Try.prog 70 #[svp (S j), .pointer (some ⟨w.heap.size, 0, none⟩)] wr fun e w' => e = .returned (.bool (P j)) ∧ Below wr.heap.size wr w' := fun wq hq j _ wr hb =>
      have h' := hq.stays hb
      wrong_any ao n cap Z hg w.heap.size _ _ _ _ (P j) (hP j) wr h'.ints h'.c0 h'.c1 h'.c2 h'.size
    have HX := hid hX
    clear hg hdec hP hX
    by_cases ha : Asc m S
    · have HA : Hid (true = true ↔ Asc m S) := hid ⟨fun _ => ha, fun _ => rfl⟩
      have HAA := hid ha
      by_cases hrt : Rts W' H' Z m S
      · have he : e = 0 := by
          rcases h with ⟨_, h⟩ | ⟨h, _⟩
          · exact absurd ⟨ha, hrt⟩ h
          · exact h
        subst he
        have HN : Hid (∀ j, j < m → P j = false) := hid (fun j hj => (HP.out j).2 (hrt j hj))
        clear h ha hrt
        go_enter Try.func36, Try.ntmps36
        go_upto_region 1 with fail
        generalize World.alloc w _ = wm at HM ⊢
        have c0 := HM.out.c0; have c1 := HM.out.c1; have c2 := HM.out.c2; have hz := HM.out.size
        go_wp2_with (first | (go_at_call 31; (with_reducible refine (validate_any W' H' ao n cap Z hn _ HM.out.ints 0 HV.out).mono ?_); rintro e w1 ⟨rfl, hb⟩; have HN := hid (HM.out.stays hb); clear hb c0 c1 c2 hz HM; have HM := HN; clear HN; have c0 := HM.out.c0; have c1 := HM.out.c1; have c2 := HM.out.c2; have hz := HM.out.size) | (go_at_call 71; refine (ascends_any lo m lcap S hm true ⟨fun _ => HAA.out, fun _ => rfl⟩ _ (HS.out.stays HM.out.below)).mono ?_; rintro e w1 ⟨rfl, hb⟩; have HN := hid (HM.out.stays hb); clear hb c0 c1 c2 hz HM; have HM := HN; clear HN; have c0 := HM.out.c0; have c1 := HM.out.c1; have c2 := HM.out.c2; have hz := HM.out.size) | (go_at_call 72; refine (contains_wrong lo m lcap S hm w.heap.size P _ (HS.out.stays HM.out.below) (HX.out _ HM.out) false ⟨fun k => (by cases k), fun ⟨j, hj, k⟩ => absurd (HN.out j hj) (by rw [k]; simp)⟩).mono ?_; rintro e w1 ⟨rfl, hb⟩; have HN := hid (HM.out.stays hb); clear hb c0 c1 c2 hz HM; have HM := HN; clear HN; have c0 := HM.out.c0; have c1 := HM.out.c1; have c2 := HM.out.c2; have hz := HM.out.size))
        go_ret
        exact ⟨rfl, HM.out.below⟩
      · have he : e = 1 := by
          rcases h with ⟨h, _⟩ | ⟨_, _, h⟩
          · exact h
          · exact absurd h hrt
        subst he
        have HN : Hid (∃ j, j < m ∧ P j = true) := hid (by
          by_cases hh : ∃ j, j < m ∧ P j = true
          · exact hh
          · exact absurd (fun j hj => (HP.out j).1 (by cases hp : P j with | false => rfl | true => exact absurd ⟨j, hj, hp⟩ hh)) hrt)
        clear h ha hrt
        go_enter Try.func36, Try.ntmps36
        go_upto_region 1 with fail
        generalize World.alloc w _ = wm at HM ⊢
        have c0 := HM.out.c0; have c1 := HM.out.c1; have c2 := HM.out.c2; have hz := HM.out.size
        go_wp2_with (first | (go_at_call 31; (with_reducible refine (validate_any W' H' ao n cap Z hn _ HM.out.ints 0 HV.out).mono ?_); rintro e w1 ⟨rfl, hb⟩; have HN := hid (HM.out.stays hb); clear hb c0 c1 c2 hz HM; have HM := HN; clear HN; have c0 := HM.out.c0; have c1 := HM.out.c1; have c2 := HM.out.c2; have hz := HM.out.size) | (go_at_call 71; refine (ascends_any lo m lcap S hm true ⟨fun _ => HAA.out, fun _ => rfl⟩ _ (HS.out.stays HM.out.below)).mono ?_; rintro e w1 ⟨rfl, hb⟩; have HN := hid (HM.out.stays hb); clear hb c0 c1 c2 hz HM; have HM := HN; clear HN; have c0 := HM.out.c0; have c1 := HM.out.c1; have c2 := HM.out.c2; have hz := HM.out.size) | (go_at_call 72; refine (contains_wrong lo m lcap S hm w.heap.size P _ (HS.out.stays HM.out.below) (HX.out _ HM.out) true ⟨fun _ => HN.out, fun _ => rfl⟩).mono ?_; rintro e w1 ⟨rfl, hb⟩; have HN := hid (HM.out.stays hb); clear hb c0 c1 c2 hz HM; have HM := HN; clear HN; have c0 := HM.out.c0; have c1 := HM.out.c1; have c2 := HM.out.c2; have hz := HM.out.size))
        go_ret
        exact ⟨rfl, HM.out.below⟩
    · have he : e = 1 := by
        rcases h with ⟨h, _⟩ | ⟨_, h, _⟩
        · exact h
        · exact absurd h ha
      subst he
      have HAA := hid ha
      clear h ha
      go_enter Try.func36, Try.ntmps36
      go_upto_region 1 with fail
      generalize World.alloc w _ = wm at HM ⊢
      have c0 := HM.out.c0; have c1 := HM.out.c1; have c2 := HM.out.c2; have hz := HM.out.size
      go_wp2_with (first | (go_at_call 31; (with_reducible refine (validate_any W' H' ao n cap Z hn _ HM.out.ints 0 HV.out).mono ?_); rintro e w1 ⟨rfl, hb⟩; have HN := hid (HM.out.stays hb); clear hb c0 c1 c2 hz HM; have HM := HN; clear HN; have c0 := HM.out.c0; have c1 := HM.out.c1; have c2 := HM.out.c2; have hz := HM.out.size) | (go_at_call 71; refine (ascends_any lo m lcap S hm false ⟨fun k => (by cases k), fun k => absurd k HAA.out⟩ _ (HS.out.stays HM.out.below)).mono ?_; rintro e w1 ⟨rfl, hb⟩; have HN := hid (HM.out.stays hb); clear hb c0 c1 c2 hz HM; have HM := HN; clear HN; have c0 := HM.out.c0; have c1 := HM.out.c1; have c2 := HM.out.c2; have hz := HM.out.size))
      go_ret
      exact ⟨rfl, HM.out.below⟩
end Go.Proofs.Ytpohhcmkkjcelaa
