/-
  The walk of Validate of a load.
-/
import Derived.Test.YtnfcibcpmaehoaaQMrk
namespace Go.Proofs.Ytnfcibcpmaehoaa
open Go.RowKit

theorem Pars.cells {w : World} {b a : Nat} {p : Par} (h : w.heap[b]? = some (.cells #[.int .i64 p.k, .int .i64 p.f, .int .i64 p.t, .int .i64 p.a, .int .i64 p.c, .int .i64 p.s] a (0, 0))) :
    w.cell? ⟨b, 0, none⟩ = some (.int .i64 p.k) ∧ w.cell? ⟨b, 1, none⟩ = some (.int .i64 p.f) ∧ w.cell? ⟨b, 2, none⟩ = some (.int .i64 p.t) ∧ w.cell? ⟨b, 3, none⟩ = some (.int .i64 p.a) ∧ w.cell? ⟨b, 4, none⟩ = some (.int .i64 p.c) ∧ w.cell? ⟨b, 5, none⟩ = some (.int .i64 p.s) :=
  ⟨cell_of_row _ _ 0 _ _ _ h, cell_of_row _ _ 1 _ _ _ h, cell_of_row _ _ 2 _ _ _ h, cell_of_row _ _ 3 _ _ _ h, cell_of_row _ _ 4 _ _ _ h, cell_of_row _ _ 5 _ _ _ h⟩
theorem vs_keep {B X : Nat} {x : Par} {b y : Nat} {z : Par} {w wr w' : World} (hbB : b < B) (h : (Below B w wr ∧ X < wr.heap.size) ∧ (wr.cell? ⟨X, 0, none⟩ = some (.int .i64 x.k) ∧ wr.cell? ⟨X, 1, none⟩ = some (.int .i64 x.f) ∧ wr.cell? ⟨X, 2, none⟩ = some (.int .i64 x.t) ∧ wr.cell? ⟨X, 3, none⟩ = some (.int .i64 x.a) ∧ wr.cell? ⟨X, 4, none⟩ = some (.int .i64 x.c) ∧ wr.cell? ⟨X, 5, none⟩ = some (.int .i64 x.s)) ∧ (wr.cell? ⟨b, y, none⟩ = some (.int .i64 z.k) ∧ wr.cell? ⟨b, y + 1, none⟩ = some (.int .i64 z.f) ∧ wr.cell? ⟨b, y + 2, none⟩ = some (.int .i64 z.t) ∧ wr.cell? ⟨b, y + 3, none⟩ = some (.int .i64 z.a) ∧ wr.cell? ⟨b, y + 4, none⟩ = some (.int .i64 z.c) ∧ wr.cell? ⟨b, y + 5, none⟩ = some (.int .i64 z.s))) (hb : Below wr.heap.size wr w') (hB : B ≤ w.heap.size := by assumption) : (Below B w w' ∧ X < w'.heap.size) ∧ (w'.cell? ⟨X, 0, none⟩ = some (.int .i64 x.k) ∧ w'.cell? ⟨X, 1, none⟩ = some (.int .i64 x.f) ∧ w'.cell? ⟨X, 2, none⟩ = some (.int .i64 x.t) ∧ w'.cell? ⟨X, 3, none⟩ = some (.int .i64 x.a) ∧ w'.cell? ⟨X, 4, none⟩ = some (.int .i64 x.c) ∧ w'.cell? ⟨X, 5, none⟩ = some (.int .i64 x.s)) ∧ (w'.cell? ⟨b, y, none⟩ = some (.int .i64 z.k) ∧ w'.cell? ⟨b, y + 1, none⟩ = some (.int .i64 z.f) ∧ w'.cell? ⟨b, y + 2, none⟩ = some (.int .i64 z.t) ∧ w'.cell? ⟨b, y + 3, none⟩ = some (.int .i64 z.a) ∧ w'.cell? ⟨b, y + 4, none⟩ = some (.int .i64 z.c) ∧ w'.cell? ⟨b, y + 5, none⟩ = some (.int .i64 z.s)) := by
  obtain ⟨⟨h1, h2⟩, ⟨c0, c1, c2, c3, c4, c5⟩, d0, d1, d2, d3, d4, d5⟩ := h
  have hBs : B ≤ wr.heap.size := Nat.le_trans hB h1.size
  have hbw : b < wr.heap.size := by omega
  exact ⟨⟨h1.trans (hb.mono hBs), by have := hb.size; omega⟩, ⟨(hb.cell (p := ⟨X, 0, none⟩) h2).trans c0, (hb.cell (p := ⟨X, 1, none⟩) h2).trans c1, (hb.cell (p := ⟨X, 2, none⟩) h2).trans c2, (hb.cell (p := ⟨X, 3, none⟩) h2).trans c3, (hb.cell (p := ⟨X, 4, none⟩) h2).trans c4, (hb.cell (p := ⟨X, 5, none⟩) h2).trans c5⟩,
    (hb.cell (p := ⟨b, y, none⟩) hbw).trans d0, (hb.cell (p := ⟨b, y + 1, none⟩) hbw).trans d1, (hb.cell (p := ⟨b, y + 2, none⟩) hbw).trans d2, (hb.cell (p := ⟨b, y + 3, none⟩) hbw).trans d3, (hb.cell (p := ⟨b, y + 4, none⟩) hbw).trans d4, (hb.cell (p := ⟨b, y + 5, none⟩) hbw).trans d5⟩
set_option maxRecDepth 100000 in
set_option maxHeartbeats 6400000 in
theorem validate_any (po : Option Addr) (n pc : Nat) (P : Nat → Par) (w : World) (hP : Pars w po n P) :
    Calls Try.prog 19 #[.slice po n pc] w fun e w' => e = .returned (.int .i64 (LErr n P)) ∧ Below w.heap.size w w' := by
  by_cases hL : 200 < n
  · have hL' : (200 : Int) < (n : Int) := by omega
    have HR : Hid (LErr n P = 4) := hid (by unfold LErr; rw [if_pos hL])
    rw [HR.out]
    clear hP
    go_enter Try.func19, Try.ntmps19
    go_wp2_with fail
    go_ret
    exact ⟨rfl, Below.refl _ _⟩
  have hL' : ¬ (200 : Int) < (n : Int) := by omega
  obtain ⟨r, hr⟩ : ∃ r, LErr n P = r := ⟨_, rfl⟩
  have HV : Hid ((if anyP n (badP P) = true then (1 : Int) else 0) = r) := hid (by rw [← hr]; unfold LErr; rw [if_neg hL])
  obtain ⟨B, hB⟩ : ∃ B, w.heap.size = B := ⟨_, rfl⟩
  have HBW := hid hB
  have HP : Hid (∀ wr, Below B w wr → Pars wr po n P) := hid (fun wr hb => hP.stays (by rw [hB]; exact hb))
  rw [hr, hB]
  clear hr hB hP
  have hn2 : n ≤ 200 := by omega
  clear hL
  go_enter Try.func19, Try.ntmps19
  go_wp2_with fail
  go_loopw [10] (fun iv wr => ∃ i : Nat, i ≤ n ∧ iv = .int .i64 i ∧ Hid ((∀ j, j < i → badP P j = false) ∧ Below B w wr)) (fun iv _ => n - (intOf iv).toNat)
  case atStart => exact ⟨0, Nat.zero_le _, rfl, hid ⟨fun j hj => by omega, Below.refl _ _⟩⟩
  case round =>
    obtain ⟨i, hi, rfl, HS⟩ := hrel
    by_cases hlt : i < n
    · obtain ⟨b, off, e, hbl, a0, a1, a2, a3, a4, a5⟩ := HP.out wr HS.out.2 i hlt
      subst e
      obtain ⟨x, hx⟩ : ∃ x, P i = x := ⟨_, rfl⟩
      rw [hx] at a0 a1 a2 a3 a4 a5
      have HX := hid hx
      clear hx
      have hBs : B ≤ wr.heap.size := by rw [← HBW.out]; exact HS.out.2.size
      obtain ⟨o, ho⟩ : ∃ o : Nat, o = i - 1 := ⟨_, rfl⟩
      have HO := hid ho
      obtain ⟨b', off', e', hbl', d0, d1, d2, d3, d4, d5⟩ := HP.out w (Below.refl _ _) o (by omega)
      cases e'
      rw [HBW.out] at hbl'
      have hb1 : Below wr.heap.size wr (wr.alloc (.cells #[.int .i64 x.k, .int .i64 x.f, .int .i64 x.t, .int .i64 x.a, .int .i64 x.c, .int .i64 x.s] 36)) := (Below.refl _ _).alloc (Nat.le_refl _) _
      have HN := hid (heap_new wr (.cells #[.int .i64 x.k, .int .i64 x.f, .int .i64 x.t, .int .i64 x.a, .int .i64 x.c, .int .i64 x.s] 36))
      have HB1 := hid (HS.out.2.trans (hb1.mono hBs))
      have HL0 := hid HS.out.1
      obtain ⟨X, hX⟩ : ∃ X, wr.heap.size = X := ⟨_, rfl⟩
      have HBX : Hid (B ≤ X) := hid (by rw [← hX]; exact hBs)
      rw [hX] at HN
      go_upto_region 6 with fail
      clear a0 a1 a2 a3 a4 a5 hbl hb1 hX
      generalize wr.alloc _ = w1 at HN HB1 ⊢
      obtain ⟨y, hy⟩ : ∃ y, off + o * 6 = y := ⟨_, rfl⟩
      obtain ⟨z, hz⟩ : ∃ z, P o = z := ⟨_, rfl⟩
      have HS1 : Hid ((Below B w w1 ∧ X < w1.heap.size) ∧ (w1.cell? ⟨X, 0, none⟩ = some (.int .i64 x.k) ∧ w1.cell? ⟨X, 1, none⟩ = some (.int .i64 x.f) ∧ w1.cell? ⟨X, 2, none⟩ = some (.int .i64 x.t) ∧ w1.cell? ⟨X, 3, none⟩ = some (.int .i64 x.a) ∧ w1.cell? ⟨X, 4, none⟩ = some (.int .i64 x.c) ∧ w1.cell? ⟨X, 5, none⟩ = some (.int .i64 x.s)) ∧ (w1.cell? ⟨b, y, none⟩ = some (.int .i64 z.k) ∧ w1.cell? ⟨b, y + 1, none⟩ = some (.int .i64 z.f) ∧ w1.cell? ⟨b, y + 2, none⟩ = some (.int .i64 z.t) ∧ w1.cell? ⟨b, y + 3, none⟩ = some (.int .i64 z.a) ∧ w1.cell? ⟨b, y + 4, none⟩ = some (.int .i64 z.c) ∧ w1.cell? ⟨b, y + 5, none⟩ = some (.int .i64 z.s))) := hid ⟨⟨HB1.out, heap_lt HN.out⟩, Pars.cells HN.out, by rw [← hy, ← hz]; exact ⟨(HB1.out.cell (p := ⟨b, off + o * 6, none⟩) hbl').trans d0, (HB1.out.cell (p := ⟨b, off + o * 6 + 1, none⟩) hbl').trans d1, (HB1.out.cell (p := ⟨b, off + o * 6 + 2, none⟩) hbl').trans d2, (HB1.out.cell (p := ⟨b, off + o * 6 + 3, none⟩) hbl').trans d3, (HB1.out.cell (p := ⟨b, off + o * 6 + 4, none⟩) hbl').trans d4, (HB1.out.cell (p := ⟨b, off + o * 6 + 5, none⟩) hbl').trans d5⟩⟩
      have hbB : b < B := hbl'
      have hBw : B ≤ w.heap.size := by rw [HBW.out]; exact Nat.le_refl _
      have HZ := hid hz
      have HY := hid hy
      clear d0 d1 d2 d3 d4 d5 hz hbl' hBs
      cases hq : isP x
      · have hIP : ∀ W, Calls Try.prog 44 #[pv x] W fun e w' => e = .returned (.bool false) ∧ Below W.heap.size W w' := fun W => by rw [← hq]; exact isparcel_any x W
        have HR : Hid (r = 1) := hid (by rw [← HV.out, if_pos (anyP_yes hlt (show badP P i = true by unfold badP; rw [HX.out, hq]; rfl))])
        clear hq
        refine wp_region_held_drew (S := (fun wr => (Below B w wr ∧ X < wr.heap.size) ∧ (wr.cell? ⟨X, 0, none⟩ = some (.int .i64 x.k) ∧ wr.cell? ⟨X, 1, none⟩ = some (.int .i64 x.f) ∧ wr.cell? ⟨X, 2, none⟩ = some (.int .i64 x.t) ∧ wr.cell? ⟨X, 3, none⟩ = some (.int .i64 x.a) ∧ wr.cell? ⟨X, 4, none⟩ = some (.int .i64 x.c) ∧ wr.cell? ⟨X, 5, none⟩ = some (.int .i64 x.s)) ∧ (wr.cell? ⟨b, y, none⟩ = some (.int .i64 z.k) ∧ wr.cell? ⟨b, y + 1, none⟩ = some (.int .i64 z.f) ∧ wr.cell? ⟨b, y + 2, none⟩ = some (.int .i64 z.t) ∧ wr.cell? ⟨b, y + 3, none⟩ = some (.int .i64 z.a) ∧ wr.cell? ⟨b, y + 4, none⟩ = some (.int .i64 z.c) ∧ wr.cell? ⟨b, y + 5, none⟩ = some (.int .i64 z.s)))) (by kernel_rfl) (vs_keep hbB HS1.out ((Below.refl _ _).drew)) (fun hHeld => ?_)
        refine wpAnyH_take (i := 0) (oi := { dst := some 15, op := Op.load 36 (Operand.tmp 4), type := 36, pos := "cargo.go:22", after := #[], guard := none }) (v := ?_) rfl (by kernel_rfl) (by kernel_rfl) (by kernel_rfl) (fun _ _ _ h => h) (Or.inl ⟨by rfl, ?_⟩) (by assumption) ?_
        rotate_left
        · intro w hSw; (try dsimp only at hSw); go_simp; try (with_reducible rfl)
        try simp only [Act.put, List.setIfInBounds_toArray, List.set_cons_zero, List.set_cons_succ]
        refine wpAnyH_ready (rs := [1]) (by kernel_rfl) (by simp) ?_
        refine AllReadyH.cons (o := { dst := some 16, op := Op.call { callee := Callee.value (Operand.func 44), args := #[Operand.tmp 15], argTypes := #[36] }, type := 4, pos := "cargo.go:22", after := #[{ on := 0, ground := Ground.data }], guard := none }) rfl (fun K hK => ?_) AllReadyH.nil
        go_simp
        refine (hIP _).mono ?_
        rintro e w5 ⟨rfl, hb⟩
        try go_wp2_with fail
        refine hK.out _ _ (vs_keep hbB (by assumption) hb) (fun hHeld2 => ?_)
        clear hK K
        try simp only [Act.put, List.setIfInBounds_toArray, List.set_cons_zero, List.set_cons_succ]
        refine wpAnyH_take (i := 2) (oi := { dst := some 17, op := Op.unOp UnOp.not 4 (Operand.tmp 16), type := 4, pos := "cargo.go:22", after := #[{ on := 1, ground := Ground.data }], guard := none }) (v := ?_) rfl (by kernel_rfl) (by kernel_rfl) (by kernel_rfl) (fun _ _ _ h => h) (Or.inl ⟨by rfl, ?_⟩) (by assumption) ?_
        rotate_left
        · intro w hSw; (try dsimp only at hSw); go_simp; try (with_reducible rfl)
        try simp only [Act.put, List.setIfInBounds_toArray, List.set_cons_zero, List.set_cons_succ]
        refine wpAnyH_take (i := 3) (oi := { dst := some 18, op := Op.move (Operand.tmp 17), type := 4, pos := "cargo.go:22", after := #[{ on := 2, ground := Ground.data }, { on := 1, ground := Ground.chain }], guard := none }) (v := ?_) rfl (by kernel_rfl) (by kernel_rfl) (by kernel_rfl) (fun _ _ _ h => h) (Or.inl ⟨by rfl, ?_⟩) (by assumption) ?_
        rotate_left
        · intro w hSw; (try dsimp only at hSw); go_simp; try (with_reducible rfl)
        try simp only [Act.put, List.setIfInBounds_toArray, List.set_cons_zero, List.set_cons_succ]
        refine wpAnyH_take (i := 4) (oi := { dst := some 19, op := Op.move (Operand.tmp 3), type := 3, pos := "cargo.go:22", after := #[{ on := 3, ground := Ground.guard }], guard := some (3, false) }) (v := undef) rfl (by kernel_rfl) (by kernel_rfl) (by kernel_rfl) (fun _ _ _ h => h) (Or.inr ⟨by rfl, rfl⟩) (by assumption) ?_
        try simp only [Act.put, List.setIfInBounds_toArray, List.set_cons_zero, List.set_cons_succ]
        refine wpAnyH_take (i := 5) (oi := { dst := some 20, op := Op.binOp BinOp.gtr 3 (Operand.tmp 19) (Operand.const (Value.int IntKind.i64 0)) 3, type := 4, pos := "cargo.go:22", after := #[{ on := 4, ground := Ground.data }, { on := 3, ground := Ground.guard }], guard := some (3, false) }) (v := undef) rfl (by kernel_rfl) (by kernel_rfl) (by kernel_rfl) (fun _ _ _ h => h) (Or.inr ⟨by rfl, rfl⟩) (by assumption) ?_
        try simp only [Act.put, List.setIfInBounds_toArray, List.set_cons_zero, List.set_cons_succ]
        refine wpAnyH_take (i := 6) (oi := { dst := some 21, op := Op.move (Operand.tmp 20), type := 4, pos := "cargo.go:22", after := #[{ on := 5, ground := Ground.data }, { on := 3, ground := Ground.chain }, { on := 3, ground := Ground.guard }], guard := some (3, false) }) (v := undef) rfl (by kernel_rfl) (by kernel_rfl) (by kernel_rfl) (fun _ _ _ h => h) (Or.inr ⟨by rfl, rfl⟩) (by assumption) ?_
        try simp only [Act.put, List.setIfInBounds_toArray, List.set_cons_zero, List.set_cons_succ]
        refine wpAnyH_take (i := 7) (oi := { dst := some 22, op := Op.move (Operand.tmp 0), type := 22, pos := "cargo.go:22", after := #[{ on := 6, ground := Ground.guard }], guard := some (6, true) }) (v := undef) rfl (by kernel_rfl) (by kernel_rfl) (by kernel_rfl) (fun _ _ _ h => h) (Or.inr ⟨by rfl, rfl⟩) (by assumption) ?_
        try simp only [Act.put, List.setIfInBounds_toArray, List.set_cons_zero, List.set_cons_succ]
        refine wpAnyH_take (i := 8) (oi := { dst := some 23, op := Op.move (Operand.tmp 3), type := 3, pos := "cargo.go:22", after := #[{ on := 6, ground := Ground.guard }], guard := some (6, true) }) (v := undef) rfl (by kernel_rfl) (by kernel_rfl) (by kernel_rfl) (fun _ _ _ h => h) (Or.inr ⟨by rfl, rfl⟩) (by assumption) ?_
        try simp only [Act.put, List.setIfInBounds_toArray, List.set_cons_zero, List.set_cons_succ]
        refine wpAnyH_take (i := 9) (oi := { dst := some 24, op := Op.binOp BinOp.sub 3 (Operand.tmp 23) (Operand.const (Value.int IntKind.i64 1)) 3, type := 3, pos := "cargo.go:22", after := #[{ on := 8, ground := Ground.data }, { on := 6, ground := Ground.guard }], guard := some (6, true) }) (v := undef) rfl (by kernel_rfl) (by kernel_rfl) (by kernel_rfl) (fun _ _ _ h => h) (Or.inr ⟨by rfl, rfl⟩) (by assumption) ?_
        try simp only [Act.put, List.setIfInBounds_toArray, List.set_cons_zero, List.set_cons_succ]
        refine wpAnyH_take (i := 10) (oi := { dst := some 25, op := Op.indexAddr 22 (Operand.tmp 22) (Operand.tmp 24), type := 0, pos := "cargo.go:22", after := #[{ on := 7, ground := Ground.data }, { on := 9, ground := Ground.data }, { on := 6, ground := Ground.guard }], guard := some (6, true) }) (v := undef) rfl (by kernel_rfl) (by kernel_rfl) (by kernel_rfl) (fun _ _ _ h => h) (Or.inr ⟨by rfl, rfl⟩) (by assumption) ?_
        try simp only [Act.put, List.setIfInBounds_toArray, List.set_cons_zero, List.set_cons_succ]
        refine wpAnyH_take (i := 11) (oi := { dst := some 26, op := Op.load 36 (Operand.tmp 25), type := 36, pos := "cargo.go:22", after := #[{ on := 10, ground := Ground.data }, { on := 6, ground := Ground.guard }], guard := some (6, true) }) (v := undef) rfl (by kernel_rfl) (by kernel_rfl) (by kernel_rfl) (fun _ _ _ h => h) (Or.inr ⟨by rfl, rfl⟩) (by assumption) ?_
        try simp only [Act.put, List.setIfInBounds_toArray, List.set_cons_zero, List.set_cons_succ]
        refine wpAnyH_take (i := 12) (oi := { dst := some 27, op := Op.load 36 (Operand.tmp 4), type := 36, pos := "cargo.go:22", after := #[{ on := 6, ground := Ground.guard }], guard := some (6, true) }) (v := undef) rfl (by kernel_rfl) (by kernel_rfl) (by kernel_rfl) (fun _ _ _ h => h) (Or.inr ⟨by rfl, rfl⟩) (by assumption) ?_
        try simp only [Act.put, List.setIfInBounds_toArray, List.set_cons_zero, List.set_cons_succ]
        refine wpAnyH_take (i := 13) (oi := { dst := some 28, op := Op.call { callee := Callee.value (Operand.func 45), args := #[Operand.tmp 26, Operand.tmp 27], argTypes := #[36, 36] }, type := 3, pos := "cargo.go:22", after := #[{ on := 11, ground := Ground.data }, { on := 12, ground := Ground.data }, { on := 6, ground := Ground.chain }, { on := 6, ground := Ground.guard }], guard := some (6, true) }) (v := undef) rfl (by kernel_rfl) (by kernel_rfl) (by kernel_rfl) (fun _ _ _ h => h) (Or.inr ⟨by rfl, rfl⟩) (by assumption) ?_
        try simp only [Act.put, List.setIfInBounds_toArray, List.set_cons_zero, List.set_cons_succ]
        refine wpAnyH_take (i := 14) (oi := { dst := some 29, op := Op.binOp BinOp.geq 3 (Operand.tmp 28) (Operand.const (Value.int IntKind.i64 0)) 3, type := 4, pos := "cargo.go:22", after := #[{ on := 13, ground := Ground.data }, { on := 6, ground := Ground.guard }], guard := some (6, true) }) (v := undef) rfl (by kernel_rfl) (by kernel_rfl) (by kernel_rfl) (fun _ _ _ h => h) (Or.inr ⟨by rfl, rfl⟩) (by assumption) ?_
        try simp only [Act.put, List.setIfInBounds_toArray, List.set_cons_zero, List.set_cons_succ]
        refine wpAnyH_take (i := 15) (oi := { dst := some 30, op := Op.pick (Operand.tmp 21) (Operand.tmp 29) (Operand.const (Value.bool false)), type := 4, pos := "cargo.go:22", after := #[{ on := 6, ground := Ground.data }, { on := 14, ground := Ground.data }, { on := 3, ground := Ground.guard }], guard := some (3, false) }) (v := undef) rfl (by kernel_rfl) (by kernel_rfl) (by kernel_rfl) (fun _ _ _ h => h) (Or.inr ⟨by rfl, rfl⟩) (by assumption) ?_
        try simp only [Act.put, List.setIfInBounds_toArray, List.set_cons_zero, List.set_cons_succ]
        refine wpAnyH_take (i := 16) (oi := { dst := some 31, op := Op.pick (Operand.tmp 18) (Operand.const (Value.bool true)) (Operand.tmp 30), type := 4, pos := "cargo.go:22", after := #[{ on := 3, ground := Ground.data }, { on := 15, ground := Ground.data }], guard := none }) (v := ?_) rfl (by kernel_rfl) (by kernel_rfl) (by kernel_rfl) (fun _ _ _ h => h) (Or.inl ⟨by rfl, ?_⟩) (by assumption) ?_
        rotate_left
        · intro w hSw; (try dsimp only at hSw); go_simp; try (with_reducible rfl)
        try simp only [Act.put, List.setIfInBounds_toArray, List.set_cons_zero, List.set_cons_succ]
        refine wpAnyH_done (by kernel_rfl) ?_ _
        go_wp2_with fail
        go_ret
        exact ⟨by rw [HR.out]; rfl, hHeld2.1.1⟩
      · have hIP : ∀ W, Calls Try.prog 44 #[pv x] W fun e w' => e = .returned (.bool true) ∧ Below W.heap.size W w' := fun W => by rw [← hq]; exact isparcel_any x W
        by_cases h0 : 0 < i
        · have h0' : (0 : Int) < (i : Int) := by omega
          have w1' : IntKind.i64.wrap ((i : Int) - 1) = (o : Int) := by rw [IntKind.wrap_i64]; omega
          have o1 : (o : Int) < (n : Int) := by omega
          obtain ⟨s, hs⟩ : ∃ s, sg4 z x = s := ⟨_, rfl⟩
          have HBM := hid (fun W => bymark_any z x s hs W)
          by_cases hlt4 : lt4 z x
          · have hs0 : ¬ (0 ≤ s) := by rw [← hs]; unfold sg4; rw [if_pos hlt4]; decide
            have HD := hid (snoc_no HL0.out (show badP P i = false by unfold badP; rw [HX.out, hq, ← HO.out, HZ.out, decide_eq_true hlt4]; simp))
            clear hs hlt4 hq ho
            refine wp_region_held_drew (S := (fun wr => (Below B w wr ∧ X < wr.heap.size) ∧ (wr.cell? ⟨X, 0, none⟩ = some (.int .i64 x.k) ∧ wr.cell? ⟨X, 1, none⟩ = some (.int .i64 x.f) ∧ wr.cell? ⟨X, 2, none⟩ = some (.int .i64 x.t) ∧ wr.cell? ⟨X, 3, none⟩ = some (.int .i64 x.a) ∧ wr.cell? ⟨X, 4, none⟩ = some (.int .i64 x.c) ∧ wr.cell? ⟨X, 5, none⟩ = some (.int .i64 x.s)) ∧ (wr.cell? ⟨b, y, none⟩ = some (.int .i64 z.k) ∧ wr.cell? ⟨b, y + 1, none⟩ = some (.int .i64 z.f) ∧ wr.cell? ⟨b, y + 2, none⟩ = some (.int .i64 z.t) ∧ wr.cell? ⟨b, y + 3, none⟩ = some (.int .i64 z.a) ∧ wr.cell? ⟨b, y + 4, none⟩ = some (.int .i64 z.c) ∧ wr.cell? ⟨b, y + 5, none⟩ = some (.int .i64 z.s)))) (by kernel_rfl) (vs_keep hbB HS1.out ((Below.refl _ _).drew)) (fun hHeld => ?_)
            refine wpAnyH_take (i := 0) (oi := { dst := some 15, op := Op.load 36 (Operand.tmp 4), type := 36, pos := "cargo.go:22", after := #[], guard := none }) (v := ?_) rfl (by kernel_rfl) (by kernel_rfl) (by kernel_rfl) (fun _ _ _ h => h) (Or.inl ⟨by rfl, ?_⟩) (by assumption) ?_
            rotate_left
            · intro w hSw; (try dsimp only at hSw); go_simp; try (with_reducible rfl)
            try simp only [Act.put, List.setIfInBounds_toArray, List.set_cons_zero, List.set_cons_succ]
            refine wpAnyH_ready (rs := [1]) (by kernel_rfl) (by simp) ?_
            refine AllReadyH.cons (o := { dst := some 16, op := Op.call { callee := Callee.value (Operand.func 44), args := #[Operand.tmp 15], argTypes := #[36] }, type := 4, pos := "cargo.go:22", after := #[{ on := 0, ground := Ground.data }], guard := none }) rfl (fun K hK => ?_) AllReadyH.nil
            go_simp
            refine (hIP _).mono ?_
            rintro e w5 ⟨rfl, hb⟩
            try go_wp2_with fail
            refine hK.out _ _ (vs_keep hbB (by assumption) hb) (fun hHeld2 => ?_)
            clear hK K
            try simp only [Act.put, List.setIfInBounds_toArray, List.set_cons_zero, List.set_cons_succ]
            refine wpAnyH_take (i := 2) (oi := { dst := some 17, op := Op.unOp UnOp.not 4 (Operand.tmp 16), type := 4, pos := "cargo.go:22", after := #[{ on := 1, ground := Ground.data }], guard := none }) (v := ?_) rfl (by kernel_rfl) (by kernel_rfl) (by kernel_rfl) (fun _ _ _ h => h) (Or.inl ⟨by rfl, ?_⟩) (by assumption) ?_
            rotate_left
            · intro w hSw; (try dsimp only at hSw); go_simp; try (with_reducible rfl)
            try simp only [Act.put, List.setIfInBounds_toArray, List.set_cons_zero, List.set_cons_succ]
            refine wpAnyH_take (i := 3) (oi := { dst := some 18, op := Op.move (Operand.tmp 17), type := 4, pos := "cargo.go:22", after := #[{ on := 2, ground := Ground.data }, { on := 1, ground := Ground.chain }], guard := none }) (v := ?_) rfl (by kernel_rfl) (by kernel_rfl) (by kernel_rfl) (fun _ _ _ h => h) (Or.inl ⟨by rfl, ?_⟩) (by assumption) ?_
            rotate_left
            · intro w hSw; (try dsimp only at hSw); go_simp; try (with_reducible rfl)
            try simp only [Act.put, List.setIfInBounds_toArray, List.set_cons_zero, List.set_cons_succ]
            refine wpAnyH_take (i := 4) (oi := { dst := some 19, op := Op.move (Operand.tmp 3), type := 3, pos := "cargo.go:22", after := #[{ on := 3, ground := Ground.guard }], guard := some (3, false) }) (v := ?_) rfl (by kernel_rfl) (by kernel_rfl) (by kernel_rfl) (fun _ _ _ h => h) (Or.inl ⟨by rfl, ?_⟩) (by assumption) ?_
            rotate_left
            · intro w hSw; (try dsimp only at hSw); go_simp; try (with_reducible rfl)
            try simp only [Act.put, List.setIfInBounds_toArray, List.set_cons_zero, List.set_cons_succ]
            refine wpAnyH_take (i := 5) (oi := { dst := some 20, op := Op.binOp BinOp.gtr 3 (Operand.tmp 19) (Operand.const (Value.int IntKind.i64 0)) 3, type := 4, pos := "cargo.go:22", after := #[{ on := 4, ground := Ground.data }, { on := 3, ground := Ground.guard }], guard := some (3, false) }) (v := ?_) rfl (by kernel_rfl) (by kernel_rfl) (by kernel_rfl) (fun _ _ _ h => h) (Or.inl ⟨by rfl, ?_⟩) (by assumption) ?_
            rotate_left
            · intro w hSw; (try dsimp only at hSw); go_simp; try (with_reducible rfl)
            try simp only [Act.put, List.setIfInBounds_toArray, List.set_cons_zero, List.set_cons_succ]
            refine wpAnyH_take (i := 6) (oi := { dst := some 21, op := Op.move (Operand.tmp 20), type := 4, pos := "cargo.go:22", after := #[{ on := 5, ground := Ground.data }, { on := 3, ground := Ground.chain }, { on := 3, ground := Ground.guard }], guard := some (3, false) }) (v := ?_) rfl (by kernel_rfl) (by kernel_rfl) (by kernel_rfl) (fun _ _ _ h => h) (Or.inl ⟨by rfl, ?_⟩) (by assumption) ?_
            rotate_left
            · intro w hSw; (try dsimp only at hSw); go_simp; try (with_reducible rfl)
            try simp only [Act.put, List.setIfInBounds_toArray, List.set_cons_zero, List.set_cons_succ]
            refine wpAnyH_take (i := 7) (oi := { dst := some 22, op := Op.move (Operand.tmp 0), type := 22, pos := "cargo.go:22", after := #[{ on := 6, ground := Ground.guard }], guard := some (6, true) }) (v := ?_) rfl (by kernel_rfl) (by kernel_rfl) (by kernel_rfl) (fun _ _ _ h => h) (Or.inl ⟨by rfl, ?_⟩) (by assumption) ?_
            rotate_left
            · intro w hSw; (try dsimp only at hSw); go_simp; try (with_reducible rfl)
            try simp only [Act.put, List.setIfInBounds_toArray, List.set_cons_zero, List.set_cons_succ]
            refine wpAnyH_take (i := 8) (oi := { dst := some 23, op := Op.move (Operand.tmp 3), type := 3, pos := "cargo.go:22", after := #[{ on := 6, ground := Ground.guard }], guard := some (6, true) }) (v := ?_) rfl (by kernel_rfl) (by kernel_rfl) (by kernel_rfl) (fun _ _ _ h => h) (Or.inl ⟨by rfl, ?_⟩) (by assumption) ?_
            rotate_left
            · intro w hSw; (try dsimp only at hSw); go_simp; try (with_reducible rfl)
            try simp only [Act.put, List.setIfInBounds_toArray, List.set_cons_zero, List.set_cons_succ]
            refine wpAnyH_take (i := 9) (oi := { dst := some 24, op := Op.binOp BinOp.sub 3 (Operand.tmp 23) (Operand.const (Value.int IntKind.i64 1)) 3, type := 3, pos := "cargo.go:22", after := #[{ on := 8, ground := Ground.data }, { on := 6, ground := Ground.guard }], guard := some (6, true) }) (v := ?_) rfl (by kernel_rfl) (by kernel_rfl) (by kernel_rfl) (fun _ _ _ h => h) (Or.inl ⟨by rfl, ?_⟩) (by assumption) ?_
            rotate_left
            · intro w hSw; (try dsimp only at hSw); go_simp; try (with_reducible rfl)
            try simp only [Act.put, List.setIfInBounds_toArray, List.set_cons_zero, List.set_cons_succ]
            refine wpAnyH_take (i := 10) (oi := { dst := some 25, op := Op.indexAddr 22 (Operand.tmp 22) (Operand.tmp 24), type := 0, pos := "cargo.go:22", after := #[{ on := 7, ground := Ground.data }, { on := 9, ground := Ground.data }, { on := 6, ground := Ground.guard }], guard := some (6, true) }) (v := ?_) rfl (by kernel_rfl) (by kernel_rfl) (by kernel_rfl) (fun _ _ _ h => h) (Or.inl ⟨by rfl, ?_⟩) (by assumption) ?_
            rotate_left
            · intro w hSw; (try dsimp only at hSw); go_simp; try (with_reducible rfl)
            try simp only [Act.put, List.setIfInBounds_toArray, List.set_cons_zero, List.set_cons_succ]
            refine wpAnyH_take (i := 11) (oi := { dst := some 26, op := Op.load 36 (Operand.tmp 25), type := 36, pos := "cargo.go:22", after := #[{ on := 10, ground := Ground.data }, { on := 6, ground := Ground.guard }], guard := some (6, true) }) (v := ?_) rfl (by kernel_rfl) (by kernel_rfl) (by kernel_rfl) (fun _ _ _ h => h) (Or.inl ⟨by rfl, ?_⟩) (by assumption) ?_
            rotate_left
            · intro w hSw; (try dsimp only at hSw); go_simp; try (with_reducible rfl)
            try simp only [Act.put, List.setIfInBounds_toArray, List.set_cons_zero, List.set_cons_succ]
            refine wpAnyH_take (i := 12) (oi := { dst := some 27, op := Op.load 36 (Operand.tmp 4), type := 36, pos := "cargo.go:22", after := #[{ on := 6, ground := Ground.guard }], guard := some (6, true) }) (v := ?_) rfl (by kernel_rfl) (by kernel_rfl) (by kernel_rfl) (fun _ _ _ h => h) (Or.inl ⟨by rfl, ?_⟩) (by assumption) ?_
            rotate_left
            · intro w hSw; (try dsimp only at hSw); go_simp; try (with_reducible rfl)
            try simp only [Act.put, List.setIfInBounds_toArray, List.set_cons_zero, List.set_cons_succ]
            refine wpAnyH_ready (rs := [13]) (by kernel_rfl) (by simp) ?_
            refine AllReadyH.cons (o := { dst := some 28, op := Op.call { callee := Callee.value (Operand.func 45), args := #[Operand.tmp 26, Operand.tmp 27], argTypes := #[36, 36] }, type := 3, pos := "cargo.go:22", after := #[{ on := 11, ground := Ground.data }, { on := 12, ground := Ground.data }, { on := 6, ground := Ground.chain }, { on := 6, ground := Ground.guard }], guard := some (6, true) }) rfl (fun K hK => ?_) AllReadyH.nil
            go_simp
            refine (HBM.out _).mono ?_
            rintro e w5 ⟨rfl, hb⟩
            try go_wp2_with fail
            refine hK.out _ _ (vs_keep hbB (by assumption) hb) (fun hHeld3 => ?_)
            clear hK K
            try simp only [Act.put, List.setIfInBounds_toArray, List.set_cons_zero, List.set_cons_succ]
            refine wpAnyH_take (i := 14) (oi := { dst := some 29, op := Op.binOp BinOp.geq 3 (Operand.tmp 28) (Operand.const (Value.int IntKind.i64 0)) 3, type := 4, pos := "cargo.go:22", after := #[{ on := 13, ground := Ground.data }, { on := 6, ground := Ground.guard }], guard := some (6, true) }) (v := ?_) rfl (by kernel_rfl) (by kernel_rfl) (by kernel_rfl) (fun _ _ _ h => h) (Or.inl ⟨by rfl, ?_⟩) (by assumption) ?_
            rotate_left
            · intro w hSw; (try dsimp only at hSw); go_simp; try (with_reducible rfl)
            try simp only [Act.put, List.setIfInBounds_toArray, List.set_cons_zero, List.set_cons_succ]
            refine wpAnyH_take (i := 15) (oi := { dst := some 30, op := Op.pick (Operand.tmp 21) (Operand.tmp 29) (Operand.const (Value.bool false)), type := 4, pos := "cargo.go:22", after := #[{ on := 6, ground := Ground.data }, { on := 14, ground := Ground.data }, { on := 3, ground := Ground.guard }], guard := some (3, false) }) (v := ?_) rfl (by kernel_rfl) (by kernel_rfl) (by kernel_rfl) (fun _ _ _ h => h) (Or.inl ⟨by rfl, ?_⟩) (by assumption) ?_
            rotate_left
            · intro w hSw; (try dsimp only at hSw); go_simp; try (with_reducible rfl)
            try simp only [Act.put, List.setIfInBounds_toArray, List.set_cons_zero, List.set_cons_succ]
            refine wpAnyH_take (i := 16) (oi := { dst := some 31, op := Op.pick (Operand.tmp 18) (Operand.const (Value.bool true)) (Operand.tmp 30), type := 4, pos := "cargo.go:22", after := #[{ on := 3, ground := Ground.data }, { on := 15, ground := Ground.data }], guard := none }) (v := ?_) rfl (by kernel_rfl) (by kernel_rfl) (by kernel_rfl) (fun _ _ _ h => h) (Or.inl ⟨by rfl, ?_⟩) (by assumption) ?_
            rotate_left
            · intro w hSw; (try dsimp only at hSw); go_simp; try (with_reducible rfl)
            try simp only [Act.put, List.setIfInBounds_toArray, List.set_cons_zero, List.set_cons_succ]
            refine wpAnyH_done (by kernel_rfl) ?_ _
            have HF := hid hHeld3.1.1
            go_wp2_with fail
            go_roundw
            case rel => exact ⟨i + 1, by omega, by go_num, hid ⟨HD.out, HF.out⟩⟩
            case measure => simp [intOf]; omega
          · have hs0 : 0 ≤ s := by rw [← hs]; unfold sg4; rw [if_neg hlt4]; split <;> decide
            have HR : Hid (r = 1) := hid (by rw [← HV.out, if_pos (anyP_yes hlt (show badP P i = true by unfold badP; rw [HX.out, hq, ← HO.out, HZ.out, decide_eq_true h0, decide_eq_false hlt4]; rfl))])
            clear hs hlt4 hq ho
            refine wp_region_held_drew (S := (fun wr => (Below B w wr ∧ X < wr.heap.size) ∧ (wr.cell? ⟨X, 0, none⟩ = some (.int .i64 x.k) ∧ wr.cell? ⟨X, 1, none⟩ = some (.int .i64 x.f) ∧ wr.cell? ⟨X, 2, none⟩ = some (.int .i64 x.t) ∧ wr.cell? ⟨X, 3, none⟩ = some (.int .i64 x.a) ∧ wr.cell? ⟨X, 4, none⟩ = some (.int .i64 x.c) ∧ wr.cell? ⟨X, 5, none⟩ = some (.int .i64 x.s)) ∧ (wr.cell? ⟨b, y, none⟩ = some (.int .i64 z.k) ∧ wr.cell? ⟨b, y + 1, none⟩ = some (.int .i64 z.f) ∧ wr.cell? ⟨b, y + 2, none⟩ = some (.int .i64 z.t) ∧ wr.cell? ⟨b, y + 3, none⟩ = some (.int .i64 z.a) ∧ wr.cell? ⟨b, y + 4, none⟩ = some (.int .i64 z.c) ∧ wr.cell? ⟨b, y + 5, none⟩ = some (.int .i64 z.s)))) (by kernel_rfl) (vs_keep hbB HS1.out ((Below.refl _ _).drew)) (fun hHeld => ?_)
            refine wpAnyH_take (i := 0) (oi := { dst := some 15, op := Op.load 36 (Operand.tmp 4), type := 36, pos := "cargo.go:22", after := #[], guard := none }) (v := ?_) rfl (by kernel_rfl) (by kernel_rfl) (by kernel_rfl) (fun _ _ _ h => h) (Or.inl ⟨by rfl, ?_⟩) (by assumption) ?_
            rotate_left
            · intro w hSw; (try dsimp only at hSw); go_simp; try (with_reducible rfl)
            try simp only [Act.put, List.setIfInBounds_toArray, List.set_cons_zero, List.set_cons_succ]
            refine wpAnyH_ready (rs := [1]) (by kernel_rfl) (by simp) ?_
            refine AllReadyH.cons (o := { dst := some 16, op := Op.call { callee := Callee.value (Operand.func 44), args := #[Operand.tmp 15], argTypes := #[36] }, type := 4, pos := "cargo.go:22", after := #[{ on := 0, ground := Ground.data }], guard := none }) rfl (fun K hK => ?_) AllReadyH.nil
            go_simp
            refine (hIP _).mono ?_
            rintro e w5 ⟨rfl, hb⟩
            try go_wp2_with fail
            refine hK.out _ _ (vs_keep hbB (by assumption) hb) (fun hHeld2 => ?_)
            clear hK K
            try simp only [Act.put, List.setIfInBounds_toArray, List.set_cons_zero, List.set_cons_succ]
            refine wpAnyH_take (i := 2) (oi := { dst := some 17, op := Op.unOp UnOp.not 4 (Operand.tmp 16), type := 4, pos := "cargo.go:22", after := #[{ on := 1, ground := Ground.data }], guard := none }) (v := ?_) rfl (by kernel_rfl) (by kernel_rfl) (by kernel_rfl) (fun _ _ _ h => h) (Or.inl ⟨by rfl, ?_⟩) (by assumption) ?_
            rotate_left
            · intro w hSw; (try dsimp only at hSw); go_simp; try (with_reducible rfl)
            try simp only [Act.put, List.setIfInBounds_toArray, List.set_cons_zero, List.set_cons_succ]
            refine wpAnyH_take (i := 3) (oi := { dst := some 18, op := Op.move (Operand.tmp 17), type := 4, pos := "cargo.go:22", after := #[{ on := 2, ground := Ground.data }, { on := 1, ground := Ground.chain }], guard := none }) (v := ?_) rfl (by kernel_rfl) (by kernel_rfl) (by kernel_rfl) (fun _ _ _ h => h) (Or.inl ⟨by rfl, ?_⟩) (by assumption) ?_
            rotate_left
            · intro w hSw; (try dsimp only at hSw); go_simp; try (with_reducible rfl)
            try simp only [Act.put, List.setIfInBounds_toArray, List.set_cons_zero, List.set_cons_succ]
            refine wpAnyH_take (i := 4) (oi := { dst := some 19, op := Op.move (Operand.tmp 3), type := 3, pos := "cargo.go:22", after := #[{ on := 3, ground := Ground.guard }], guard := some (3, false) }) (v := ?_) rfl (by kernel_rfl) (by kernel_rfl) (by kernel_rfl) (fun _ _ _ h => h) (Or.inl ⟨by rfl, ?_⟩) (by assumption) ?_
            rotate_left
            · intro w hSw; (try dsimp only at hSw); go_simp; try (with_reducible rfl)
            try simp only [Act.put, List.setIfInBounds_toArray, List.set_cons_zero, List.set_cons_succ]
            refine wpAnyH_take (i := 5) (oi := { dst := some 20, op := Op.binOp BinOp.gtr 3 (Operand.tmp 19) (Operand.const (Value.int IntKind.i64 0)) 3, type := 4, pos := "cargo.go:22", after := #[{ on := 4, ground := Ground.data }, { on := 3, ground := Ground.guard }], guard := some (3, false) }) (v := ?_) rfl (by kernel_rfl) (by kernel_rfl) (by kernel_rfl) (fun _ _ _ h => h) (Or.inl ⟨by rfl, ?_⟩) (by assumption) ?_
            rotate_left
            · intro w hSw; (try dsimp only at hSw); go_simp; try (with_reducible rfl)
            try simp only [Act.put, List.setIfInBounds_toArray, List.set_cons_zero, List.set_cons_succ]
            refine wpAnyH_take (i := 6) (oi := { dst := some 21, op := Op.move (Operand.tmp 20), type := 4, pos := "cargo.go:22", after := #[{ on := 5, ground := Ground.data }, { on := 3, ground := Ground.chain }, { on := 3, ground := Ground.guard }], guard := some (3, false) }) (v := ?_) rfl (by kernel_rfl) (by kernel_rfl) (by kernel_rfl) (fun _ _ _ h => h) (Or.inl ⟨by rfl, ?_⟩) (by assumption) ?_
            rotate_left
            · intro w hSw; (try dsimp only at hSw); go_simp; try (with_reducible rfl)
            try simp only [Act.put, List.setIfInBounds_toArray, List.set_cons_zero, List.set_cons_succ]
            refine wpAnyH_take (i := 7) (oi := { dst := some 22, op := Op.move (Operand.tmp 0), type := 22, pos := "cargo.go:22", after := #[{ on := 6, ground := Ground.guard }], guard := some (6, true) }) (v := ?_) rfl (by kernel_rfl) (by kernel_rfl) (by kernel_rfl) (fun _ _ _ h => h) (Or.inl ⟨by rfl, ?_⟩) (by assumption) ?_
            rotate_left
            · intro w hSw; (try dsimp only at hSw); go_simp; try (with_reducible rfl)
            try simp only [Act.put, List.setIfInBounds_toArray, List.set_cons_zero, List.set_cons_succ]
            refine wpAnyH_take (i := 8) (oi := { dst := some 23, op := Op.move (Operand.tmp 3), type := 3, pos := "cargo.go:22", after := #[{ on := 6, ground := Ground.guard }], guard := some (6, true) }) (v := ?_) rfl (by kernel_rfl) (by kernel_rfl) (by kernel_rfl) (fun _ _ _ h => h) (Or.inl ⟨by rfl, ?_⟩) (by assumption) ?_
            rotate_left
            · intro w hSw; (try dsimp only at hSw); go_simp; try (with_reducible rfl)
            try simp only [Act.put, List.setIfInBounds_toArray, List.set_cons_zero, List.set_cons_succ]
            refine wpAnyH_take (i := 9) (oi := { dst := some 24, op := Op.binOp BinOp.sub 3 (Operand.tmp 23) (Operand.const (Value.int IntKind.i64 1)) 3, type := 3, pos := "cargo.go:22", after := #[{ on := 8, ground := Ground.data }, { on := 6, ground := Ground.guard }], guard := some (6, true) }) (v := ?_) rfl (by kernel_rfl) (by kernel_rfl) (by kernel_rfl) (fun _ _ _ h => h) (Or.inl ⟨by rfl, ?_⟩) (by assumption) ?_
            rotate_left
            · intro w hSw; (try dsimp only at hSw); go_simp; try (with_reducible rfl)
            try simp only [Act.put, List.setIfInBounds_toArray, List.set_cons_zero, List.set_cons_succ]
            refine wpAnyH_take (i := 10) (oi := { dst := some 25, op := Op.indexAddr 22 (Operand.tmp 22) (Operand.tmp 24), type := 0, pos := "cargo.go:22", after := #[{ on := 7, ground := Ground.data }, { on := 9, ground := Ground.data }, { on := 6, ground := Ground.guard }], guard := some (6, true) }) (v := ?_) rfl (by kernel_rfl) (by kernel_rfl) (by kernel_rfl) (fun _ _ _ h => h) (Or.inl ⟨by rfl, ?_⟩) (by assumption) ?_
            rotate_left
            · intro w hSw; (try dsimp only at hSw); go_simp; try (with_reducible rfl)
            try simp only [Act.put, List.setIfInBounds_toArray, List.set_cons_zero, List.set_cons_succ]
            refine wpAnyH_take (i := 11) (oi := { dst := some 26, op := Op.load 36 (Operand.tmp 25), type := 36, pos := "cargo.go:22", after := #[{ on := 10, ground := Ground.data }, { on := 6, ground := Ground.guard }], guard := some (6, true) }) (v := ?_) rfl (by kernel_rfl) (by kernel_rfl) (by kernel_rfl) (fun _ _ _ h => h) (Or.inl ⟨by rfl, ?_⟩) (by assumption) ?_
            rotate_left
            · intro w hSw; (try dsimp only at hSw); go_simp; try (with_reducible rfl)
            try simp only [Act.put, List.setIfInBounds_toArray, List.set_cons_zero, List.set_cons_succ]
            refine wpAnyH_take (i := 12) (oi := { dst := some 27, op := Op.load 36 (Operand.tmp 4), type := 36, pos := "cargo.go:22", after := #[{ on := 6, ground := Ground.guard }], guard := some (6, true) }) (v := ?_) rfl (by kernel_rfl) (by kernel_rfl) (by kernel_rfl) (fun _ _ _ h => h) (Or.inl ⟨by rfl, ?_⟩) (by assumption) ?_
            rotate_left
            · intro w hSw; (try dsimp only at hSw); go_simp; try (with_reducible rfl)
            try simp only [Act.put, List.setIfInBounds_toArray, List.set_cons_zero, List.set_cons_succ]
            refine wpAnyH_ready (rs := [13]) (by kernel_rfl) (by simp) ?_
            refine AllReadyH.cons (o := { dst := some 28, op := Op.call { callee := Callee.value (Operand.func 45), args := #[Operand.tmp 26, Operand.tmp 27], argTypes := #[36, 36] }, type := 3, pos := "cargo.go:22", after := #[{ on := 11, ground := Ground.data }, { on := 12, ground := Ground.data }, { on := 6, ground := Ground.chain }, { on := 6, ground := Ground.guard }], guard := some (6, true) }) rfl (fun K hK => ?_) AllReadyH.nil
            go_simp
            refine (HBM.out _).mono ?_
            rintro e w5 ⟨rfl, hb⟩
            try go_wp2_with fail
            refine hK.out _ _ (vs_keep hbB (by assumption) hb) (fun hHeld3 => ?_)
            clear hK K
            try simp only [Act.put, List.setIfInBounds_toArray, List.set_cons_zero, List.set_cons_succ]
            refine wpAnyH_take (i := 14) (oi := { dst := some 29, op := Op.binOp BinOp.geq 3 (Operand.tmp 28) (Operand.const (Value.int IntKind.i64 0)) 3, type := 4, pos := "cargo.go:22", after := #[{ on := 13, ground := Ground.data }, { on := 6, ground := Ground.guard }], guard := some (6, true) }) (v := ?_) rfl (by kernel_rfl) (by kernel_rfl) (by kernel_rfl) (fun _ _ _ h => h) (Or.inl ⟨by rfl, ?_⟩) (by assumption) ?_
            rotate_left
            · intro w hSw; (try dsimp only at hSw); go_simp; try (with_reducible rfl)
            try simp only [Act.put, List.setIfInBounds_toArray, List.set_cons_zero, List.set_cons_succ]
            refine wpAnyH_take (i := 15) (oi := { dst := some 30, op := Op.pick (Operand.tmp 21) (Operand.tmp 29) (Operand.const (Value.bool false)), type := 4, pos := "cargo.go:22", after := #[{ on := 6, ground := Ground.data }, { on := 14, ground := Ground.data }, { on := 3, ground := Ground.guard }], guard := some (3, false) }) (v := ?_) rfl (by kernel_rfl) (by kernel_rfl) (by kernel_rfl) (fun _ _ _ h => h) (Or.inl ⟨by rfl, ?_⟩) (by assumption) ?_
            rotate_left
            · intro w hSw; (try dsimp only at hSw); go_simp; try (with_reducible rfl)
            try simp only [Act.put, List.setIfInBounds_toArray, List.set_cons_zero, List.set_cons_succ]
            refine wpAnyH_take (i := 16) (oi := { dst := some 31, op := Op.pick (Operand.tmp 18) (Operand.const (Value.bool true)) (Operand.tmp 30), type := 4, pos := "cargo.go:22", after := #[{ on := 3, ground := Ground.data }, { on := 15, ground := Ground.data }], guard := none }) (v := ?_) rfl (by kernel_rfl) (by kernel_rfl) (by kernel_rfl) (fun _ _ _ h => h) (Or.inl ⟨by rfl, ?_⟩) (by assumption) ?_
            rotate_left
            · intro w hSw; (try dsimp only at hSw); go_simp; try (with_reducible rfl)
            try simp only [Act.put, List.setIfInBounds_toArray, List.set_cons_zero, List.set_cons_succ]
            refine wpAnyH_done (by kernel_rfl) ?_ _
            go_wp2_with fail
            go_ret
            exact ⟨by rw [HR.out]; rfl, hHeld3.1.1⟩
        · have h0' : ¬ (0 : Int) < (i : Int) := by omega
          have HD := hid (snoc_no HL0.out (show badP P i = false by unfold badP; rw [HX.out, hq, decide_eq_false h0]; rfl))
          clear hq ho hy
          refine wp_region_held_drew (S := (fun wr => (Below B w wr ∧ X < wr.heap.size) ∧ (wr.cell? ⟨X, 0, none⟩ = some (.int .i64 x.k) ∧ wr.cell? ⟨X, 1, none⟩ = some (.int .i64 x.f) ∧ wr.cell? ⟨X, 2, none⟩ = some (.int .i64 x.t) ∧ wr.cell? ⟨X, 3, none⟩ = some (.int .i64 x.a) ∧ wr.cell? ⟨X, 4, none⟩ = some (.int .i64 x.c) ∧ wr.cell? ⟨X, 5, none⟩ = some (.int .i64 x.s)) ∧ (wr.cell? ⟨b, y, none⟩ = some (.int .i64 z.k) ∧ wr.cell? ⟨b, y + 1, none⟩ = some (.int .i64 z.f) ∧ wr.cell? ⟨b, y + 2, none⟩ = some (.int .i64 z.t) ∧ wr.cell? ⟨b, y + 3, none⟩ = some (.int .i64 z.a) ∧ wr.cell? ⟨b, y + 4, none⟩ = some (.int .i64 z.c) ∧ wr.cell? ⟨b, y + 5, none⟩ = some (.int .i64 z.s)))) (by kernel_rfl) (vs_keep hbB HS1.out ((Below.refl _ _).drew)) (fun hHeld => ?_)
          refine wpAnyH_take (i := 0) (oi := { dst := some 15, op := Op.load 36 (Operand.tmp 4), type := 36, pos := "cargo.go:22", after := #[], guard := none }) (v := ?_) rfl (by kernel_rfl) (by kernel_rfl) (by kernel_rfl) (fun _ _ _ h => h) (Or.inl ⟨by rfl, ?_⟩) (by assumption) ?_
          rotate_left
          · intro w hSw; (try dsimp only at hSw); go_simp; try (with_reducible rfl)
          try simp only [Act.put, List.setIfInBounds_toArray, List.set_cons_zero, List.set_cons_succ]
          refine wpAnyH_ready (rs := [1]) (by kernel_rfl) (by simp) ?_
          refine AllReadyH.cons (o := { dst := some 16, op := Op.call { callee := Callee.value (Operand.func 44), args := #[Operand.tmp 15], argTypes := #[36] }, type := 4, pos := "cargo.go:22", after := #[{ on := 0, ground := Ground.data }], guard := none }) rfl (fun K hK => ?_) AllReadyH.nil
          go_simp
          refine (hIP _).mono ?_
          rintro e w5 ⟨rfl, hb⟩
          try go_wp2_with fail
          refine hK.out _ _ (vs_keep hbB (by assumption) hb) (fun hHeld2 => ?_)
          clear hK K
          try simp only [Act.put, List.setIfInBounds_toArray, List.set_cons_zero, List.set_cons_succ]
          refine wpAnyH_take (i := 2) (oi := { dst := some 17, op := Op.unOp UnOp.not 4 (Operand.tmp 16), type := 4, pos := "cargo.go:22", after := #[{ on := 1, ground := Ground.data }], guard := none }) (v := ?_) rfl (by kernel_rfl) (by kernel_rfl) (by kernel_rfl) (fun _ _ _ h => h) (Or.inl ⟨by rfl, ?_⟩) (by assumption) ?_
          rotate_left
          · intro w hSw; (try dsimp only at hSw); go_simp; try (with_reducible rfl)
          try simp only [Act.put, List.setIfInBounds_toArray, List.set_cons_zero, List.set_cons_succ]
          refine wpAnyH_take (i := 3) (oi := { dst := some 18, op := Op.move (Operand.tmp 17), type := 4, pos := "cargo.go:22", after := #[{ on := 2, ground := Ground.data }, { on := 1, ground := Ground.chain }], guard := none }) (v := ?_) rfl (by kernel_rfl) (by kernel_rfl) (by kernel_rfl) (fun _ _ _ h => h) (Or.inl ⟨by rfl, ?_⟩) (by assumption) ?_
          rotate_left
          · intro w hSw; (try dsimp only at hSw); go_simp; try (with_reducible rfl)
          try simp only [Act.put, List.setIfInBounds_toArray, List.set_cons_zero, List.set_cons_succ]
          refine wpAnyH_take (i := 4) (oi := { dst := some 19, op := Op.move (Operand.tmp 3), type := 3, pos := "cargo.go:22", after := #[{ on := 3, ground := Ground.guard }], guard := some (3, false) }) (v := ?_) rfl (by kernel_rfl) (by kernel_rfl) (by kernel_rfl) (fun _ _ _ h => h) (Or.inl ⟨by rfl, ?_⟩) (by assumption) ?_
          rotate_left
          · intro w hSw; (try dsimp only at hSw); go_simp; try (with_reducible rfl)
          try simp only [Act.put, List.setIfInBounds_toArray, List.set_cons_zero, List.set_cons_succ]
          refine wpAnyH_take (i := 5) (oi := { dst := some 20, op := Op.binOp BinOp.gtr 3 (Operand.tmp 19) (Operand.const (Value.int IntKind.i64 0)) 3, type := 4, pos := "cargo.go:22", after := #[{ on := 4, ground := Ground.data }, { on := 3, ground := Ground.guard }], guard := some (3, false) }) (v := ?_) rfl (by kernel_rfl) (by kernel_rfl) (by kernel_rfl) (fun _ _ _ h => h) (Or.inl ⟨by rfl, ?_⟩) (by assumption) ?_
          rotate_left
          · intro w hSw; (try dsimp only at hSw); go_simp; try (with_reducible rfl)
          try simp only [Act.put, List.setIfInBounds_toArray, List.set_cons_zero, List.set_cons_succ]
          refine wpAnyH_take (i := 6) (oi := { dst := some 21, op := Op.move (Operand.tmp 20), type := 4, pos := "cargo.go:22", after := #[{ on := 5, ground := Ground.data }, { on := 3, ground := Ground.chain }, { on := 3, ground := Ground.guard }], guard := some (3, false) }) (v := ?_) rfl (by kernel_rfl) (by kernel_rfl) (by kernel_rfl) (fun _ _ _ h => h) (Or.inl ⟨by rfl, ?_⟩) (by assumption) ?_
          rotate_left
          · intro w hSw; (try dsimp only at hSw); go_simp; try (with_reducible rfl)
          try simp only [Act.put, List.setIfInBounds_toArray, List.set_cons_zero, List.set_cons_succ]
          refine wpAnyH_take (i := 7) (oi := { dst := some 22, op := Op.move (Operand.tmp 0), type := 22, pos := "cargo.go:22", after := #[{ on := 6, ground := Ground.guard }], guard := some (6, true) }) (v := undef) rfl (by kernel_rfl) (by kernel_rfl) (by kernel_rfl) (fun _ _ _ h => h) (Or.inr ⟨by rfl, rfl⟩) (by assumption) ?_
          try simp only [Act.put, List.setIfInBounds_toArray, List.set_cons_zero, List.set_cons_succ]
          refine wpAnyH_take (i := 8) (oi := { dst := some 23, op := Op.move (Operand.tmp 3), type := 3, pos := "cargo.go:22", after := #[{ on := 6, ground := Ground.guard }], guard := some (6, true) }) (v := undef) rfl (by kernel_rfl) (by kernel_rfl) (by kernel_rfl) (fun _ _ _ h => h) (Or.inr ⟨by rfl, rfl⟩) (by assumption) ?_
          try simp only [Act.put, List.setIfInBounds_toArray, List.set_cons_zero, List.set_cons_succ]
          refine wpAnyH_take (i := 9) (oi := { dst := some 24, op := Op.binOp BinOp.sub 3 (Operand.tmp 23) (Operand.const (Value.int IntKind.i64 1)) 3, type := 3, pos := "cargo.go:22", after := #[{ on := 8, ground := Ground.data }, { on := 6, ground := Ground.guard }], guard := some (6, true) }) (v := undef) rfl (by kernel_rfl) (by kernel_rfl) (by kernel_rfl) (fun _ _ _ h => h) (Or.inr ⟨by rfl, rfl⟩) (by assumption) ?_
          try simp only [Act.put, List.setIfInBounds_toArray, List.set_cons_zero, List.set_cons_succ]
          refine wpAnyH_take (i := 10) (oi := { dst := some 25, op := Op.indexAddr 22 (Operand.tmp 22) (Operand.tmp 24), type := 0, pos := "cargo.go:22", after := #[{ on := 7, ground := Ground.data }, { on := 9, ground := Ground.data }, { on := 6, ground := Ground.guard }], guard := some (6, true) }) (v := undef) rfl (by kernel_rfl) (by kernel_rfl) (by kernel_rfl) (fun _ _ _ h => h) (Or.inr ⟨by rfl, rfl⟩) (by assumption) ?_
          try simp only [Act.put, List.setIfInBounds_toArray, List.set_cons_zero, List.set_cons_succ]
          refine wpAnyH_take (i := 11) (oi := { dst := some 26, op := Op.load 36 (Operand.tmp 25), type := 36, pos := "cargo.go:22", after := #[{ on := 10, ground := Ground.data }, { on := 6, ground := Ground.guard }], guard := some (6, true) }) (v := undef) rfl (by kernel_rfl) (by kernel_rfl) (by kernel_rfl) (fun _ _ _ h => h) (Or.inr ⟨by rfl, rfl⟩) (by assumption) ?_
          try simp only [Act.put, List.setIfInBounds_toArray, List.set_cons_zero, List.set_cons_succ]
          refine wpAnyH_take (i := 12) (oi := { dst := some 27, op := Op.load 36 (Operand.tmp 4), type := 36, pos := "cargo.go:22", after := #[{ on := 6, ground := Ground.guard }], guard := some (6, true) }) (v := undef) rfl (by kernel_rfl) (by kernel_rfl) (by kernel_rfl) (fun _ _ _ h => h) (Or.inr ⟨by rfl, rfl⟩) (by assumption) ?_
          try simp only [Act.put, List.setIfInBounds_toArray, List.set_cons_zero, List.set_cons_succ]
          refine wpAnyH_take (i := 13) (oi := { dst := some 28, op := Op.call { callee := Callee.value (Operand.func 45), args := #[Operand.tmp 26, Operand.tmp 27], argTypes := #[36, 36] }, type := 3, pos := "cargo.go:22", after := #[{ on := 11, ground := Ground.data }, { on := 12, ground := Ground.data }, { on := 6, ground := Ground.chain }, { on := 6, ground := Ground.guard }], guard := some (6, true) }) (v := undef) rfl (by kernel_rfl) (by kernel_rfl) (by kernel_rfl) (fun _ _ _ h => h) (Or.inr ⟨by rfl, rfl⟩) (by assumption) ?_
          try simp only [Act.put, List.setIfInBounds_toArray, List.set_cons_zero, List.set_cons_succ]
          refine wpAnyH_take (i := 14) (oi := { dst := some 29, op := Op.binOp BinOp.geq 3 (Operand.tmp 28) (Operand.const (Value.int IntKind.i64 0)) 3, type := 4, pos := "cargo.go:22", after := #[{ on := 13, ground := Ground.data }, { on := 6, ground := Ground.guard }], guard := some (6, true) }) (v := undef) rfl (by kernel_rfl) (by kernel_rfl) (by kernel_rfl) (fun _ _ _ h => h) (Or.inr ⟨by rfl, rfl⟩) (by assumption) ?_
          try simp only [Act.put, List.setIfInBounds_toArray, List.set_cons_zero, List.set_cons_succ]
          refine wpAnyH_take (i := 15) (oi := { dst := some 30, op := Op.pick (Operand.tmp 21) (Operand.tmp 29) (Operand.const (Value.bool false)), type := 4, pos := "cargo.go:22", after := #[{ on := 6, ground := Ground.data }, { on := 14, ground := Ground.data }, { on := 3, ground := Ground.guard }], guard := some (3, false) }) (v := ?_) rfl (by kernel_rfl) (by kernel_rfl) (by kernel_rfl) (fun _ _ _ h => h) (Or.inl ⟨by rfl, ?_⟩) (by assumption) ?_
          rotate_left
          · intro w hSw; (try dsimp only at hSw); go_simp; try (with_reducible rfl)
          try simp only [Act.put, List.setIfInBounds_toArray, List.set_cons_zero, List.set_cons_succ]
          refine wpAnyH_take (i := 16) (oi := { dst := some 31, op := Op.pick (Operand.tmp 18) (Operand.const (Value.bool true)) (Operand.tmp 30), type := 4, pos := "cargo.go:22", after := #[{ on := 3, ground := Ground.data }, { on := 15, ground := Ground.data }], guard := none }) (v := ?_) rfl (by kernel_rfl) (by kernel_rfl) (by kernel_rfl) (fun _ _ _ h => h) (Or.inl ⟨by rfl, ?_⟩) (by assumption) ?_
          rotate_left
          · intro w hSw; (try dsimp only at hSw); go_simp; try (with_reducible rfl)
          try simp only [Act.put, List.setIfInBounds_toArray, List.set_cons_zero, List.set_cons_succ]
          refine wpAnyH_done (by kernel_rfl) ?_ _
          have HF := hid hHeld2.1.1
          go_wp2_with fail
          go_roundw
          case rel => exact ⟨i + 1, by omega, by go_num, hid ⟨HD.out, HF.out⟩⟩
          case measure => simp [intOf]; omega
    · obtain rfl : n = i := by omega
      have HR : Hid (r = 0) := hid (by rw [← HV.out, if_neg (by rw [anyP_no HS.out.1]; simp)])
      go_wp2_with fail
      go_ret
      exact ⟨by rw [HR.out]; rfl, HS.out.2⟩
end Go.Proofs.Ytnfcibcpmaehoaa
