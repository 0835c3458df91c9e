/-
  The walk of Deliver of the program.
-/
import Derived.Test.YtnfcibcpmaehoaaQTr2
namespace Go.Proofs.Ytnfcibcpmaehoaa
open Go.RowKit

theorem dt_keep {B X bc yc kn : Nat} {x : Par} {g : Cg} {w wr w' : World} (hcB : bc < B) (h : (Below B w wr ∧ X < wr.heap.size) ∧ (wr.cell? ⟨X, 0, none⟩ = some (.int .i64 (kn : Int)) ∧ wr.cell? ⟨X, 1, none⟩ = some (.int .i64 x.f) ∧ wr.cell? ⟨X, 2, none⟩ = some (.int .i64 x.t) ∧ wr.cell? ⟨X, 3, none⟩ = some (.int .i64 x.a) ∧ wr.cell? ⟨X, 4, none⟩ = some (.int .i64 x.c) ∧ wr.cell? ⟨X, 5, none⟩ = some (.int .i64 x.s)) ∧ (wr.cell? ⟨bc, yc, none⟩ = some (.string g.n) ∧ wr.cell? ⟨bc, yc + 1, none⟩ = some (.int .i64 g.r) ∧ wr.cell? ⟨bc, yc + 2, none⟩ = some (.int .i64 g.f) ∧ wr.cell? ⟨bc, yc + 3, none⟩ = some (.int .i64 g.l))) (hb : Below wr.heap.size wr w') (hB : B ≤ w.heap.size := by assumption) : (Below B w w' ∧ X < w'.heap.size) ∧ (w'.cell? ⟨X, 0, none⟩ = some (.int .i64 (kn : Int)) ∧ w'.cell? ⟨X, 1, none⟩ = some (.int .i64 x.f) ∧ w'.cell? ⟨X, 2, none⟩ = some (.int .i64 x.t) ∧ w'.cell? ⟨X, 3, none⟩ = some (.int .i64 x.a) ∧ w'.cell? ⟨X, 4, none⟩ = some (.int .i64 x.c) ∧ w'.cell? ⟨X, 5, none⟩ = some (.int .i64 x.s)) ∧ (w'.cell? ⟨bc, yc, none⟩ = some (.string g.n) ∧ w'.cell? ⟨bc, yc + 1, none⟩ = some (.int .i64 g.r) ∧ w'.cell? ⟨bc, yc + 2, none⟩ = some (.int .i64 g.f) ∧ w'.cell? ⟨bc, yc + 3, none⟩ = some (.int .i64 g.l)) := by
  obtain ⟨⟨h1, h2⟩, ⟨c0, c1, c2, c3, c4, c5⟩, d0, d1, d2, d3⟩ := h
  have hBs : B ≤ wr.heap.size := Nat.le_trans hB h1.size
  have hbw : bc < wr.heap.size := by omega
  exact ⟨⟨h1.trans (hb.mono hBs), by have := hb.size; omega⟩, ⟨(hb.cell (p := ⟨X, 0, none⟩) h2).trans c0, (hb.cell (p := ⟨X, 1, none⟩) h2).trans c1, (hb.cell (p := ⟨X, 2, none⟩) h2).trans c2, (hb.cell (p := ⟨X, 3, none⟩) h2).trans c3, (hb.cell (p := ⟨X, 4, none⟩) h2).trans c4, (hb.cell (p := ⟨X, 5, none⟩) h2).trans c5⟩,
    (hb.cell (p := ⟨bc, yc, none⟩) hbw).trans d0, (hb.cell (p := ⟨bc, yc + 1, none⟩) hbw).trans d1, (hb.cell (p := ⟨bc, yc + 2, none⟩) hbw).trans d2, (hb.cell (p := ⟨bc, yc + 3, none⟩) hbw).trans d3⟩
/-- What Deliver answers. -/
def dlR (m : Nat) (C : Nat → Cg) (n : Nat) (P : Nat → Par) (W u : Int) : Int × Int × Int :=
  if TErr m C n P W u ≠ 0 then (0, 0, TErr m C n P W u) else if 1000000000000 < pdS C P W u n then (0, 0, 10) else (pdS C P W u n, min (shS P n) (pdS C P W u n), 0)
set_option maxRecDepth 100000 in
set_option maxHeartbeats 6400000 in
theorem deliver_any (co : Option Addr) (m cc : Nat) (C : Nat → Cg) (hs : ∀ j, j < m → (C j).n.size ≤ maxLen) (po : Option Addr) (n pc : Nat) (P : Nat → Par) (W u : Int) (v1 v2 v3 : Int) (hr : dlR m C n P W u = (v1, v2, v3)) (w : World) (hC : Cgs w co m C) (hP : Pars w po n P) :
    Calls Try.prog 39 #[.slice co m cc, .slice po n pc, .int .i64 W, .int .i64 u] w fun e w' => e = .returned (.tuple #[.int .i64 v1, .int .i64 v2, .int .i64 v3]) ∧ Below w.heap.size w w' := by
  obtain ⟨B, hB⟩ : ∃ B, w.heap.size = B := ⟨_, rfl⟩
  have HBW := hid hB
  have HP : Hid (∀ wr, Below B w wr → Pars wr po n P) := hid (fun wr hb => hP.stays (by rw [hB]; exact hb))
  have HC : Hid (∀ wr, Below B w wr → Cgs wr co m C) := hid (fun wr hb => hC.stays (by rw [hB]; exact hb))
  have HV := hid (vtrip_any co m cc C hs po n pc P W u w hC hP)
  obtain ⟨te, hte⟩ : ∃ x, TErr m C n P W u = x := ⟨_, rfl⟩
  rw [hte] at HV
  unfold dlR at hr
  rw [hte] at hr
  rw [hB]
  clear hB hC hP hs
  by_cases h0 : te = 0
  · subst h0
    have HT := hid (TErr.trip hte)
    rw [if_neg (by simp)] at hr
    have HR := hid hr
    have hn := HT.out.ld.le
    have hm := HT.out.cg.le
    have hBw : B ≤ w.heap.size := by rw [HBW.out]; exact Nat.le_refl _
    clear hte hr
    go_enter Try.func39, Try.ntmps39
    go_wp2_with fail
    refine HV.out.mono ?_
    rintro e w2 ⟨rfl, hb2⟩
    have HB2 : Hid (Below B w w2) := hid (by rw [← HBW.out]; exact hb2)
    clear hb2 HV
    go_wp2_with fail
    go_loopw [12, 13, 26] (fun sv tv iv wr => ∃ (i : Nat) (s t : Int), i ≤ n ∧ iv = .int .i64 i ∧ sv = .int .i64 s ∧ tv = .int .i64 t ∧ Hid (True ∧ s = pdS C P W u i ∧ t = shS P i ∧ Below B w wr)) (fun _ _ iv _ => n - (intOf iv).toNat)
    case atStart => exact ⟨0, 0, 0, Nat.zero_le _, rfl, rfl, rfl, hid ⟨trivial, rfl, rfl, HB2.out⟩⟩
    case round =>
      obtain ⟨i, s, t, hi, rfl, rfl, rfl, HS⟩ := hrel
      by_cases hlt : i < n
      · obtain ⟨b, off, e, hbl, a0, a1, a2, a3, a4, a5⟩ := HP.out wr HS.out.2.2.2 i hlt
        subst e
        have hok := HT.out.ld.ok i hlt
        have hkm := HT.out.kd i hlt
        have hpd := HT.out.pd hlt
        have hps := HT.out.pds i hi
        have hsh := HT.out.shs i hi
        rw [← HS.out.2.1] at hps
        rw [← HS.out.2.2.1] at hsh
        have hstep : pdS C P W u (i + 1) = s + pdP C P W u i := by rw [HS.out.2.1]; rfl
        have hstep2 : shS P (i + 1) = t + (P i).s := by rw [HS.out.2.2.1]; rfl
        obtain ⟨x, hx⟩ : ∃ x, P i = x := ⟨_, rfl⟩
        obtain ⟨v, hv⟩ : ∃ v, pdP C P W u i = v := ⟨_, rfl⟩
        have hpv := hv
        unfold pdP at hpv
        rw [hx] at a0 a1 a2 a3 a4 a5 hok hkm hpv hstep2
        rw [hv] at hpd hstep
        obtain ⟨kn, hkn⟩ : ∃ kn : Nat, x.k = kn := ⟨x.k.toNat, by have := hok.k1; omega⟩
        have hknm : kn < m := by omega
        rw [hkn, Int.toNat_natCast] at hpv
        obtain ⟨D, hD⟩ : ∃ D, dst W x.t u = D := ⟨_, rfl⟩
        rw [hD] at hpv
        have hdb := dst_bd HT.out.w1 HT.out.w2 hok.t1 hok.t2 HT.out.u1 HT.out.u2
        rw [hD] at hdb
        obtain ⟨bc, oc, ec, hbc, d0, d1, d2, d3⟩ := HC.out w (Below.refl _ _) kn hknm
        subst ec
        rw [HBW.out] at hbc
        have hcB : bc < B := hbc
        have hokc := HT.out.cg.ok kn hknm
        obtain ⟨g, hg⟩ : ∃ g, C kn = g := ⟨_, rfl⟩
        rw [hg] at d0 d1 d2 d3 hpv hokc
        obtain ⟨yc, hyc⟩ : ∃ y, oc + kn * 4 = y := ⟨_, rfl⟩
        have HST := hid (fun w => steps_any W x.t u D HT.out.w1 HT.out.w2 hok.t1 hok.t2 HT.out.u1 HT.out.u2 hD w)
        have HPY := hid (fun w => pay_any g hokc x.c D x.a (by have := hok.c1; omega) hok.c2 hdb.2.2.2.2.1 (by omega) hok.a1 hok.a2 v hpv w)
        have hs1 := hok.s1
        have hs2 := hok.s2
        have ws : IntKind.i64.wrap (s + v) = s + v := by rw [IntKind.wrap_i64]; omega
        have wt : IntKind.i64.wrap (t + x.s) = t + x.s := by rw [IntKind.wrap_i64]; omega
        have HSTEP := hid hstep
        have HSTEP2 := hid hstep2
        skip
        rw [hkn] at a0
        have hBs : B ≤ wr.heap.size := by rw [← HBW.out]; exact HS.out.2.2.2.size
        have hb1 : Below wr.heap.size wr (wr.alloc (.cells #[.int .i64 (kn : Int), .int .i64 x.f, .int .i64 x.t, .int .i64 x.a, .int .i64 x.c, .int .i64 x.s] 36)) := (Below.refl _ _).alloc (Nat.le_refl _) _
        have HN := hid (heap_new wr (.cells #[.int .i64 (kn : Int), .int .i64 x.f, .int .i64 x.t, .int .i64 x.a, .int .i64 x.c, .int .i64 x.s] 36))
        have HB1 := hid (HS.out.2.2.2.trans (hb1.mono hBs))
        have HMO := hid (fun d => HT.out.mono d (i + 1))
        obtain ⟨X, hX⟩ : ∃ X, wr.heap.size = X := ⟨_, rfl⟩
        rw [hX] at HN
        clear hx hv hpv hkm hok hpd hps hsh hstep hstep2 hD hdb hokc hg hs1 hs2 hbl hb1
        go_upto_region 8 with fail
        clear a0 a1 a2 a3 a4 a5 hX
        generalize wr.alloc _ = w1 at HN HB1 ⊢
        have HS1 : Hid ((Below B w w1 ∧ X < w1.heap.size) ∧ (w1.cell? ⟨X, 0, none⟩ = some (.int .i64 (kn : Int)) ∧ w1.cell? ⟨X, 1, none⟩ = some (.int .i64 x.f) ∧ w1.cell? ⟨X, 2, none⟩ = some (.int .i64 x.t) ∧ w1.cell? ⟨X, 3, none⟩ = some (.int .i64 x.a) ∧ w1.cell? ⟨X, 4, none⟩ = some (.int .i64 x.c) ∧ w1.cell? ⟨X, 5, none⟩ = some (.int .i64 x.s)) ∧ (w1.cell? ⟨bc, yc, none⟩ = some (.string g.n) ∧ w1.cell? ⟨bc, yc + 1, none⟩ = some (.int .i64 g.r) ∧ w1.cell? ⟨bc, yc + 2, none⟩ = some (.int .i64 g.f) ∧ w1.cell? ⟨bc, yc + 3, none⟩ = some (.int .i64 g.l))) := hid ⟨⟨HB1.out, heap_lt HN.out⟩, ⟨cell_of_row _ _ 0 _ _ _ HN.out, cell_of_row _ _ 1 _ _ _ HN.out, cell_of_row _ _ 2 _ _ _ HN.out, cell_of_row _ _ 3 _ _ _ HN.out, cell_of_row _ _ 4 _ _ _ HN.out, cell_of_row _ _ 5 _ _ _ HN.out⟩, by rw [← hyc]; exact ⟨(HB1.out.cell (p := ⟨bc, oc + kn * 4, none⟩) hbc).trans d0, (HB1.out.cell (p := ⟨bc, oc + kn * 4 + 1, none⟩) hbc).trans d1, (HB1.out.cell (p := ⟨bc, oc + kn * 4 + 2, none⟩) hbc).trans d2, (HB1.out.cell (p := ⟨bc, oc + kn * 4 + 3, none⟩) hbc).trans d3⟩⟩
        have hkm2 : (kn : Int) < (m : Int) := by omega
        have HREL := hid HS.out.1
        clear d0 d1 d2 d3 hbc HS hBs hkn hknm
        refine wp_region_held_drew (S := (fun wr => (Below B w wr ∧ X < wr.heap.size) ∧ (wr.cell? ⟨X, 0, none⟩ = some (.int .i64 (kn : Int)) ∧ wr.cell? ⟨X, 1, none⟩ = some (.int .i64 x.f) ∧ wr.cell? ⟨X, 2, none⟩ = some (.int .i64 x.t) ∧ wr.cell? ⟨X, 3, none⟩ = some (.int .i64 x.a) ∧ wr.cell? ⟨X, 4, none⟩ = some (.int .i64 x.c) ∧ wr.cell? ⟨X, 5, none⟩ = some (.int .i64 x.s)) ∧ (wr.cell? ⟨bc, yc, none⟩ = some (.string g.n) ∧ wr.cell? ⟨bc, yc + 1, none⟩ = some (.int .i64 g.r) ∧ wr.cell? ⟨bc, yc + 2, none⟩ = some (.int .i64 g.f) ∧ wr.cell? ⟨bc, yc + 3, none⟩ = some (.int .i64 g.l)))) (by kernel_rfl) (dt_keep hcB HS1.out ((Below.refl _ _).drew)) (fun hHeld => ?_)
        refine wpAnyH_take (i := 0) (oi := { dst := some 30, op := Op.move (Operand.tmp 12), type := 3, pos := "pay.go:33", after := #[], guard := none }) (v := ?_) rfl (by kernel_rfl) (by kernel_rfl) (by kernel_rfl) (fun _ _ _ h => h) (Or.inl ⟨by rfl, ?_⟩) (by assumption) ?_
        rotate_left
        · intro w hSw; (try dsimp only at hSw); go_simp; try (with_reducible rfl)
        try simp only [Act.put, List.setIfInBounds_toArray, List.set_cons_zero, List.set_cons_succ]
        refine wpAnyH_take (i := 1) (oi := { dst := some 31, op := Op.move (Operand.tmp 0), type := 23, pos := "pay.go:33", after := #[], guard := none }) (v := ?_) rfl (by kernel_rfl) (by kernel_rfl) (by kernel_rfl) (fun _ _ _ h => h) (Or.inl ⟨by rfl, ?_⟩) (by assumption) ?_
        rotate_left
        · intro w hSw; (try dsimp only at hSw); go_simp; try (with_reducible rfl)
        try simp only [Act.put, List.setIfInBounds_toArray, List.set_cons_zero, List.set_cons_succ]
        refine wpAnyH_take (i := 2) (oi := { dst := some 32, op := Op.fieldAddr 36 (Operand.tmp 15) 0, type := 0, pos := "pay.go:33", after := #[], guard := none }) (v := ?_) rfl (by kernel_rfl) (by kernel_rfl) (by kernel_rfl) (fun _ _ _ h => h) (Or.inl ⟨by rfl, ?_⟩) (by assumption) ?_
        rotate_left
        · intro w hSw; (try dsimp only at hSw); go_simp; try (with_reducible rfl)
        try simp only [Act.put, List.setIfInBounds_toArray, List.set_cons_zero, List.set_cons_succ]
        refine wpAnyH_take (i := 3) (oi := { dst := some 33, op := Op.load 3 (Operand.tmp 32), type := 3, pos := "pay.go:33", after := #[{ on := 2, ground := Ground.data }], guard := none }) (v := ?_) rfl (by kernel_rfl) (by kernel_rfl) (by kernel_rfl) (fun _ _ _ h => h) (Or.inl ⟨by rfl, ?_⟩) (by assumption) ?_
        rotate_left
        · intro w hSw; (try dsimp only at hSw); go_simp; try (with_reducible rfl)
        try simp only [Act.put, List.setIfInBounds_toArray, List.set_cons_zero, List.set_cons_succ]
        refine wpAnyH_take (i := 4) (oi := { dst := some 34, op := Op.indexAddr 23 (Operand.tmp 31) (Operand.tmp 33), type := 0, pos := "pay.go:33", after := #[{ on := 1, ground := Ground.data }, { on := 3, ground := Ground.data }], guard := none }) (v := ?_) rfl (by kernel_rfl) (by kernel_rfl) (by kernel_rfl) (fun _ _ _ h => h) (Or.inl ⟨by rfl, ?_⟩) (by assumption) ?_
        rotate_left
        · intro w hSw; (try dsimp only at hSw); go_simp; try (with_reducible rfl)
        try simp only [Act.put, List.setIfInBounds_toArray, List.set_cons_zero, List.set_cons_succ]
        refine wpAnyH_take (i := 5) (oi := { dst := some 35, op := Op.load 49 (Operand.tmp 34), type := 49, pos := "pay.go:33", after := #[{ on := 4, ground := Ground.data }], guard := none }) (v := ?_) rfl (by kernel_rfl) (by kernel_rfl) (by kernel_rfl) (fun _ _ _ h => h) (Or.inl ⟨by rfl, ?_⟩) (by assumption) ?_
        rotate_left
        · intro w hSw; (try dsimp only at hSw); go_simp; try (with_reducible rfl)
        try simp only [Act.put, List.setIfInBounds_toArray, List.set_cons_zero, List.set_cons_succ]
        refine wpAnyH_take (i := 6) (oi := { dst := some 36, op := Op.fieldAddr 36 (Operand.tmp 15) 4, type := 0, pos := "pay.go:33", after := #[], guard := none }) (v := ?_) rfl (by kernel_rfl) (by kernel_rfl) (by kernel_rfl) (fun _ _ _ h => h) (Or.inl ⟨by rfl, ?_⟩) (by assumption) ?_
        rotate_left
        · intro w hSw; (try dsimp only at hSw); go_simp; try (with_reducible rfl)
        try simp only [Act.put, List.setIfInBounds_toArray, List.set_cons_zero, List.set_cons_succ]
        refine wpAnyH_take (i := 7) (oi := { dst := some 37, op := Op.load 3 (Operand.tmp 36), type := 3, pos := "pay.go:33", after := #[{ on := 6, ground := Ground.data }], guard := none }) (v := ?_) rfl (by kernel_rfl) (by kernel_rfl) (by kernel_rfl) (fun _ _ _ h => h) (Or.inl ⟨by rfl, ?_⟩) (by assumption) ?_
        rotate_left
        · intro w hSw; (try dsimp only at hSw); go_simp; try (with_reducible rfl)
        try simp only [Act.put, List.setIfInBounds_toArray, List.set_cons_zero, List.set_cons_succ]
        refine wpAnyH_take (i := 8) (oi := { dst := some 38, op := Op.move (Operand.tmp 2), type := 3, pos := "pay.go:33", after := #[], guard := none }) (v := ?_) rfl (by kernel_rfl) (by kernel_rfl) (by kernel_rfl) (fun _ _ _ h => h) (Or.inl ⟨by rfl, ?_⟩) (by assumption) ?_
        rotate_left
        · intro w hSw; (try dsimp only at hSw); go_simp; try (with_reducible rfl)
        try simp only [Act.put, List.setIfInBounds_toArray, List.set_cons_zero, List.set_cons_succ]
        refine wpAnyH_take (i := 9) (oi := { dst := some 39, op := Op.fieldAddr 36 (Operand.tmp 15) 2, type := 0, pos := "pay.go:33", after := #[], guard := none }) (v := ?_) rfl (by kernel_rfl) (by kernel_rfl) (by kernel_rfl) (fun _ _ _ h => h) (Or.inl ⟨by rfl, ?_⟩) (by assumption) ?_
        rotate_left
        · intro w hSw; (try dsimp only at hSw); go_simp; try (with_reducible rfl)
        try simp only [Act.put, List.setIfInBounds_toArray, List.set_cons_zero, List.set_cons_succ]
        refine wpAnyH_take (i := 10) (oi := { dst := some 40, op := Op.load 3 (Operand.tmp 39), type := 3, pos := "pay.go:33", after := #[{ on := 9, ground := Ground.data }], guard := none }) (v := ?_) rfl (by kernel_rfl) (by kernel_rfl) (by kernel_rfl) (fun _ _ _ h => h) (Or.inl ⟨by rfl, ?_⟩) (by assumption) ?_
        rotate_left
        · intro w hSw; (try dsimp only at hSw); go_simp; try (with_reducible rfl)
        try simp only [Act.put, List.setIfInBounds_toArray, List.set_cons_zero, List.set_cons_succ]
        refine wpAnyH_take (i := 11) (oi := { dst := some 41, op := Op.move (Operand.tmp 3), type := 3, pos := "pay.go:33", after := #[], guard := none }) (v := ?_) rfl (by kernel_rfl) (by kernel_rfl) (by kernel_rfl) (fun _ _ _ h => h) (Or.inl ⟨by rfl, ?_⟩) (by assumption) ?_
        rotate_left
        · intro w hSw; (try dsimp only at hSw); go_simp; try (with_reducible rfl)
        try simp only [Act.put, List.setIfInBounds_toArray, List.set_cons_zero, List.set_cons_succ]
        refine wpAnyH_take (i := 13) (oi := { dst := some 43, op := Op.fieldAddr 36 (Operand.tmp 15) 3, type := 0, pos := "pay.go:33", after := #[], guard := none }) (v := ?_) rfl (by kernel_rfl) (by kernel_rfl) (by kernel_rfl) (fun _ _ _ h => h) (Or.inl ⟨by rfl, ?_⟩) (by assumption) ?_
        rotate_left
        · intro w hSw; (try dsimp only at hSw); go_simp; try (with_reducible rfl)
        try simp only [Act.put, List.setIfInBounds_toArray, List.set_cons_zero, List.set_cons_succ]
        refine wpAnyH_take (i := 14) (oi := { dst := some 44, op := Op.load 3 (Operand.tmp 43), type := 3, pos := "pay.go:33", after := #[{ on := 13, ground := Ground.data }], guard := none }) (v := ?_) rfl (by kernel_rfl) (by kernel_rfl) (by kernel_rfl) (fun _ _ _ h => h) (Or.inl ⟨by rfl, ?_⟩) (by assumption) ?_
        rotate_left
        · intro w hSw; (try dsimp only at hSw); go_simp; try (with_reducible rfl)
        try simp only [Act.put, List.setIfInBounds_toArray, List.set_cons_zero, List.set_cons_succ]
        refine wpAnyH_ready (rs := [12]) (by kernel_rfl) (by simp) ?_
        refine AllReadyH.cons (o := { dst := some 42, op := Op.call { callee := Callee.value (Operand.func 68), args := #[Operand.tmp 38, Operand.tmp 40, Operand.tmp 41], argTypes := #[3, 3, 3] }, type := 3, pos := "pay.go:33", after := #[{ on := 8, ground := Ground.data }, { on := 10, ground := Ground.data }, { on := 11, ground := Ground.data }], guard := none }) rfl (fun K hK => ?_) AllReadyH.nil
        go_simp
        refine (HST.out _).mono ?_
        rintro e w5 ⟨rfl, hb⟩
        try go_wp2_with fail
        refine hK.out _ _ (dt_keep hcB (by assumption) hb) (fun hHeld2 => ?_)
        clear hK K
        try simp only [Act.put, List.setIfInBounds_toArray, List.set_cons_zero, List.set_cons_succ]
        refine wpAnyH_ready (rs := [15]) (by kernel_rfl) (by simp) ?_
        refine AllReadyH.cons (o := { dst := some 45, op := Op.call { callee := Callee.value (Operand.func 64), args := #[Operand.tmp 35, Operand.tmp 37, Operand.tmp 42, Operand.tmp 44], argTypes := #[49, 3, 3, 3] }, type := 3, pos := "pay.go:33", after := #[{ on := 5, ground := Ground.data }, { on := 7, ground := Ground.data }, { on := 12, ground := Ground.data }, { on := 14, ground := Ground.data }, { on := 12, ground := Ground.chain }], guard := none }) rfl (fun K hK => ?_) AllReadyH.nil
        go_simp
        refine (HPY.out _).mono ?_
        rintro e w5 ⟨rfl, hb⟩
        try go_wp2_with fail
        refine hK.out _ _ (dt_keep hcB (by assumption) hb) (fun hHeld3 => ?_)
        clear hK K
        try simp only [Act.put, List.setIfInBounds_toArray, List.set_cons_zero, List.set_cons_succ]
        refine wpAnyH_take (i := 16) (oi := { dst := some 46, op := Op.binOp BinOp.add 3 (Operand.tmp 30) (Operand.tmp 45) 3, type := 3, pos := "pay.go:33", after := #[{ on := 0, ground := Ground.data }, { on := 15, ground := Ground.data }], guard := none }) (v := ?_) rfl (by kernel_rfl) (by kernel_rfl) (by kernel_rfl) (fun _ _ _ h => h) (Or.inl ⟨by rfl, ?_⟩) (by assumption) ?_
        rotate_left
        · intro w hSw; (try dsimp only at hSw); go_simp; try (with_reducible rfl)
        try simp only [Act.put, List.setIfInBounds_toArray, List.set_cons_zero, List.set_cons_succ]
        refine wpAnyH_take (i := 17) (oi := { dst := some 12, op := Op.assign (Operand.tmp 46), type := 3, pos := "pay.go:33", after := #[{ on := 16, ground := Ground.data }, { on := 15, ground := Ground.chain }, { on := 0, ground := Ground.phase }, { on := 1, ground := Ground.phase }, { on := 2, ground := Ground.phase }, { on := 3, ground := Ground.phase }, { on := 4, ground := Ground.phase }, { on := 5, ground := Ground.phase }, { on := 6, ground := Ground.phase }, { on := 7, ground := Ground.phase }, { on := 8, ground := Ground.phase }, { on := 9, ground := Ground.phase }, { on := 10, ground := Ground.phase }, { on := 11, ground := Ground.phase }, { on := 12, ground := Ground.phase }, { on := 13, ground := Ground.phase }, { on := 14, ground := Ground.phase }, { on := 15, ground := Ground.phase }, { on := 16, ground := Ground.phase }], guard := none }) (v := ?_) rfl (by kernel_rfl) (by kernel_rfl) (by kernel_rfl) (fun _ _ _ h => h) (Or.inl ⟨by rfl, ?_⟩) (by assumption) ?_
        rotate_left
        · intro w hSw; (try dsimp only at hSw); go_simp; try (with_reducible rfl)
        try simp only [Act.put, List.setIfInBounds_toArray, List.set_cons_zero, List.set_cons_succ]
        refine wpAnyH_done (by kernel_rfl) ?_ _
        have HF := hid hHeld3.1.1
        have f5 := hHeld3.2.1.2.2.2.2.2
        have HHX := hid hHeld3
        clear hHeld hHeld2 hHeld3
        go_wp2_with fail
        go_roundw
        case rel => exact ⟨i + 1, s + v, t + x.s, by omega, by go_num, rfl, rfl, hid ⟨trivial, HSTEP.out.symm, HSTEP2.out.symm, HF.out⟩⟩
        case measure => simp [intOf]; omega
      · obtain rfl : n = i := by omega
        have HBE := hid HS.out.2.2.2
        have HSE := hid (And.intro HS.out.2.1 HS.out.2.2.1)
        clear HS
        by_cases hbig : 1000000000000 < s
        · have HQ : Hid (v1 = 0 ∧ v2 = 0 ∧ v3 = 10) := hid (by have h := HR.out; rw [if_pos (by rw [← HSE.out.1]; exact hbig)] at h; cases h; exact ⟨rfl, rfl, rfl⟩)
          go_wp2_with fail
          go_ret3
          exact ⟨by rw [HQ.out.1, HQ.out.2.1, HQ.out.2.2]; rfl, HBE.out⟩
        · have hq : v1 = s ∧ v2 = min t s ∧ v3 = 0 := by have h := HR.out; rw [if_neg (by rw [← HSE.out.1]; exact hbig), ← HSE.out.1, ← HSE.out.2] at h; cases h; exact ⟨rfl, rfl, rfl⟩
          have HQ := hid hq
          have k1 := min_is hq.2.1.symm
          clear hq
          go_wp2_with fail
          go_ret3
          exact ⟨by rw [HQ.out.1, HQ.out.2.2]; rfl, HBE.out⟩
  · have hb : (te == 0) = false := by simpa using h0
    rw [if_pos h0] at hr
    have HQ : Hid (v1 = 0 ∧ v2 = 0 ∧ v3 = te) := hid (by cases hr; exact ⟨rfl, rfl, rfl⟩)
    clear hr
    go_enter Try.func39, Try.ntmps39
    go_wp2_with fail
    refine HV.out.mono ?_
    rintro e w2 ⟨rfl, hb2⟩
    rw [HBW.out] at hb2
    go_wp2_with fail
    go_ret3
    exact ⟨by rw [HQ.out.1, HQ.out.2.1, HQ.out.2.2]; rfl, hb2⟩
end Go.Proofs.Ytnfcibcpmaehoaa
