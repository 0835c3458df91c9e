/-
  The walk of Transfer of the program.
-/
import Derived.Test.YtnfcibcpmaehoaaQDel
import Derived.Test.YtnfcibcpmaehoaaQRow
namespace Go.Proofs.Ytnfcibcpmaehoaa
open Go.RowKit

/-- What is promised behind a transfer; how much more that is for the first i parcels. -/
def trS (C : Nat → Cg) (P : Nat → Par) (W u : Int) (i : Nat) : Int := max (P i).s (pdP C P W u i)
def trP (C : Nat → Cg) (P : Nat → Par) (W u : Int) (i : Nat) : Par := setS (P i) (trS C P W u i)
def grS (C : Nat → Cg) (P : Nat → Par) (W u : Int) : Nat → Int
  | 0 => 0
  | i + 1 => grS C P W u i + (trS C P W u i - (P i).s)
/-- The first i parcels have been told. -/
def mvP (C : Nat → Cg) (P : Nat → Par) (W u : Int) (i : Nat) : Nat → Par := fun j => if j < i then trP C P W u j else P j
theorem mvP_at (C : Nat → Cg) (P : Nat → Par) (W u : Int) (i : Nat) : mvP C P W u i i = P i := by simp [mvP]
theorem mvP_zero (C : Nat → Cg) (P : Nat → Par) (W u : Int) (j : Nat) : mvP C P W u 0 j = P j := by simp [mvP]
theorem mvP_succ (C : Nat → Cg) (P : Nat → Par) (W u : Int) (i j : Nat) : updP (mvP C P W u i) i (setS (mvP C P W u i i) (trS C P W u i)) j = mvP C P W u (i + 1) j := by
  rw [mvP_at]
  by_cases e : j = i
  · subst e; rw [updP_same]; simp [mvP, trP]
  · rw [updP_ne _ _ e]
    by_cases h : j < i
    · simp [mvP, h, show j < i + 1 by omega]
    · simp [mvP, h, show ¬ j < i + 1 by omega]
theorem mvP_end (C : Nat → Cg) (P : Nat → Par) (W u : Int) (n j : Nat) (h : j < n) : mvP C P W u n j = trP C P W u j := by simp [mvP, h]
theorem Trip.gr {m : Nat} {C : Nat → Cg} {n : Nat} {P : Nat → Par} {W u : Int} (h : Trip m C n P W u) : ∀ i, i ≤ n → 0 ≤ grS C P W u i ∧ grS C P W u i ≤ 1000000000000 * (i : Int)
  | 0, _ => ⟨Int.le_refl _, Int.le_refl _⟩
  | i + 1, hi => by
    have h1 := h.gr i (by omega)
    have h2 := h.pd (i := i) (by omega)
    have h3 := h.ld.ok i (by omega)
    have h4 := h3.s1
    have h5 := h3.s2
    show 0 ≤ grS C P W u i + (trS C P W u i - (P i).s) ∧ grS C P W u i + (trS C P W u i - (P i).s) ≤ _
    unfold trS
    omega
theorem Trip.gmono {m : Nat} {C : Nat → Cg} {n : Nat} {P : Nat → Par} {W u : Int} : ∀ d i, i + d ≤ n → grS C P W u i ≤ grS C P W u (i + d)
  | 0, i, _ => Int.le_refl _
  | d + 1, i, hi => by
    have h1 := Trip.gmono (m := m) (C := C) (P := P) (W := W) (u := u) (n := n) d i (by omega)
    show _ ≤ grS C P W u (i + d) + (trS C P W u (i + d) - (P (i + d)).s)
    unfold trS
    omega
/-- How many parcels Transfer hands back, what it adds, its error. -/
def trR (m : Nat) (C : Nat → Cg) (n : Nat) (P : Nat → Par) (W u : Int) : Nat × Int × Int :=
  if TErr m C n P W u ≠ 0 then (0, 0, TErr m C n P W u) else if 1000000000000 < grS C P W u n then (0, 0, 10) else (n, grS C P W u n, 0)
/-- What Transfer leaves. -/
def TrPost (k : Nat) (v2 v3 : Int) (L : Nat → Par) (w : World) (e : Ending) (w' : World) : Prop := ∃ vo c, e = .returned (.tuple #[.slice vo k c, .int .i64 v2, .int .i64 v3]) ∧ RowP w' w.heap.size (.slice vo k c) k L ∧ Below w.heap.size w w'
set_option maxRecDepth 100000 in
set_option maxHeartbeats 6400000 in
theorem transfer_any (co : Option Addr) (m cc : Nat) (C : Nat → Cg) (hs : ∀ j, j < m → (C j).n.size ≤ maxLen) (po : Option Addr) (n pc : Nat) (P : Nat → Par) (W u : Int) (k : Nat) (v2 v3 : Int) (hr : trR m C n P W u = (k, v2, v3)) (w : World) (hC : Cgs w co m C) (hP : Pars w po n P) :
    Calls Try.prog 41 #[.slice co m cc, .slice po n pc, .int .i64 W, .int .i64 u] w (TrPost k v2 v3 (trP C P W u) w) := by
  obtain ⟨B, hB⟩ : ∃ B, w.heap.size = B := ⟨_, rfl⟩
  have HBW := hid hB
  have HPOST : Hid (∀ vo c w', RowP w' B (.slice vo k c) k (trP C P W u) → Below B w w' → TrPost k v2 v3 (trP C P W u) w (.returned (.tuple #[.slice vo k c, .int .i64 v2, .int .i64 v3])) w') := hid (fun vo c w' h1 h2 => ⟨vo, c, rfl, by rw [hB]; exact h1, by rw [hB]; exact h2⟩)
  have HP : Hid (∀ wr, Below B w wr → Pars wr po n P) := hid (fun wr hb => hP.stays (by rw [hB]; exact hb))
  have HC : Hid (∀ wr, Below B w wr → Cgs wr co m C) := hid (fun wr hb => hC.stays (by rw [hB]; exact hb))
  have HV := hid (vtrip_any co m cc C hs po n pc P W u w hC hP)
  obtain ⟨te, hte⟩ : ∃ x, TErr m C n P W u = x := ⟨_, rfl⟩
  rw [hte] at HV
  unfold trR at hr
  rw [hte] at hr
  generalize hPO : TrPost k v2 v3 (trP C P W u) w = PO at HPOST ⊢
  clear hB hC hP hs hPO
  by_cases h0 : te = 0
  · subst h0
    have HT := hid (TErr.trip hte)
    rw [if_neg (by simp)] at hr
    have HR := hid hr
    have hn := HT.out.ld.le
    have hm := HT.out.cg.le
    clear hte hr
    go_enter Try.func41, Try.ntmps41
    go_wp2_with fail
    refine HV.out.mono ?_
    rintro e w2 ⟨rfl, hb2⟩
    have HB2 : Hid (Below B w w2) := hid (by rw [← HBW.out]; exact hb2)
    clear hb2 HV
    go_wp2_with fail
    refine (cloneP_any po n pc P (by omega) w2 (HP.out _ HB2.out)).mono ?_
    rintro e w3 ⟨vo, c, rfl, hrow, hb3⟩
    have hs2 : B ≤ w2.heap.size := by rw [← HBW.out]; exact HB2.out.size
    have HB3 := hid (HB2.out.trans (hb3.mono hs2))
    have HROW0 : Hid (RowP w3 B (.slice vo n c) n (mvP C P W u 0)) := hid (RowP.congr (row_mono hrow hs2) (fun i _ => (mvP_zero C P W u i).symm))
    clear hrow hb3 hs2
    go_wp2_with fail
    go_loopw [13, 29] (fun sv iv wr => ∃ (i : Nat) (s : Int), i ≤ n ∧ iv = .int .i64 i ∧ sv = .int .i64 s ∧ Hid (s = grS C P W u i ∧ RowP wr B (.slice vo n c) n (mvP C P W u i) ∧ Below B w wr)) (fun _ iv _ => n - (intOf iv).toNat)
    case atStart => exact ⟨0, 0, Nat.zero_le _, rfl, rfl, hid ⟨rfl, HROW0.out, HB3.out⟩⟩
    case round =>
      clear HROW0 HB3
      obtain ⟨i, s, hi, rfl, rfl, HS⟩ := hrel
      by_cases hlt : i < n
      · obtain ⟨b, off, e, hbl, a0, a1, a2, a3, a4, a5⟩ := HP.out wr HS.out.2.2 i hlt
        subst e
        have HROW := hid HS.out.2.1
        have HBR := hid HS.out.2.2
        obtain ⟨gb, gc, ev, hgB, hgl⟩ := HROW.out.form (by omega)
        cases ev
        have hok := HT.out.ld.ok i hlt
        have hkm := HT.out.kd i hlt
        have hpd := HT.out.pd hlt
        have hgs := HT.out.gr i hi
        rw [← HS.out.1] at hgs
        have hstep : grS C P W u (i + 1) = s + (trS C P W u i - (P i).s) := by rw [HS.out.1]; rfl
        have htr : trS C P W u i = max (P i).s (pdP C P W u i) := rfl
        have HMS := hid (mvP_succ C P W u i)
        have hfl := mvP_at C P W u i
        obtain ⟨mx, hmx⟩ : ∃ x, trS C P W u i = x := ⟨_, rfl⟩
        rw [hmx] at hstep htr HMS
        obtain ⟨x, hx⟩ : ∃ x, P i = x := ⟨_, rfl⟩
        obtain ⟨v, hv⟩ : ∃ v, pdP C P W u i = v := ⟨_, rfl⟩
        have hpv := hv
        unfold pdP at hpv
        rw [hx] at a0 a1 a2 a3 a4 a5 hok hkm hpv hstep htr hfl
        rw [hv] at hpd htr
        have HFL := hid hfl
        obtain ⟨kn, hkn⟩ : ∃ kn : Nat, x.k = kn := ⟨x.k.toNat, by have := hok.k1; omega⟩
        have hknm : kn < m := by omega
        rw [hkn, Int.toNat_natCast] at hpv
        obtain ⟨D, hD⟩ : ∃ D, dst W x.t u = D := ⟨_, rfl⟩
        rw [hD] at hpv
        have hdb := dst_bd HT.out.w1 HT.out.w2 hok.t1 hok.t2 HT.out.u1 HT.out.u2
        rw [hD] at hdb
        obtain ⟨bc, oc, ec, hbc, d0, d1, d2, d3⟩ := HC.out w (Below.refl _ _) kn hknm
        subst ec
        rw [HBW.out] at hbc
        have hokc := HT.out.cg.ok kn hknm
        obtain ⟨g, hg⟩ : ∃ g, C kn = g := ⟨_, rfl⟩
        rw [hg] at d0 d1 d2 d3 hpv hokc
        obtain ⟨yc, hyc⟩ : ∃ y, oc + kn * 4 = y := ⟨_, rfl⟩
        have HST := hid (fun w => steps_any W x.t u D HT.out.w1 HT.out.w2 hok.t1 hok.t2 HT.out.u1 HT.out.u2 hD w)
        have HPY := hid (fun w => pay_any g hokc x.c D x.a (by have := hok.c1; omega) hok.c2 hdb.2.2.2.2.1 (by omega) hok.a1 hok.a2 v hpv w)
        have hs1 := hok.s1
        have hs2 := hok.s2
        have k1 := max_is htr.symm
        have ws1 : IntKind.i64.wrap (mx - x.s) = mx - x.s := by rw [IntKind.wrap_i64]; omega
        have ws2 : IntKind.i64.wrap (s + (mx - x.s)) = s + (mx - x.s) := by rw [IntKind.wrap_i64]; omega
        have HSTEP := hid hstep
        rw [hkn] at a0
        have hBs : B ≤ wr.heap.size := by rw [← HBW.out]; exact HBR.out.size
        have hb1 : Below wr.heap.size wr (wr.alloc (.cells #[.int .i64 (kn : Int), .int .i64 x.f, .int .i64 x.t, .int .i64 x.a, .int .i64 x.c, .int .i64 x.s] 36)) := (Below.refl _ _).alloc (Nat.le_refl _) _
        have HN := hid (heap_new wr (.cells #[.int .i64 (kn : Int), .int .i64 x.f, .int .i64 x.t, .int .i64 x.a, .int .i64 x.c, .int .i64 x.s] 36))
        have HB1 := hid (HBR.out.trans (hb1.mono hBs))
        have HROW1 := hid (row_stays HROW.out hb1)
        obtain ⟨X, hX⟩ : ∃ X, wr.heap.size = X := ⟨_, rfl⟩
        rw [hX] at HN
        have hgX : gb ≠ X := by omega
        have HGB : Hid (B ≤ gb) := hid hgB
        clear hx hv hpv hkm hok hpd hgs hstep htr hmx hD hdb hokc hg hs1 hs2 hbl hb1 hfl HS HROW HBR hgl hgB
        go_upto_region 8 with fail
        clear a0 a1 a2 a3 a4 a5 hX
        generalize wr.alloc _ = w1 at HN HB1 HROW1 ⊢
        obtain ⟨Z, hZ⟩ : ∃ Z, w1.heap.size = Z := ⟨_, rfl⟩
        have HZ := hid hZ
        have hZZ : Z ≤ w1.heap.size := Nat.le_of_eq hZ.symm
        have hBZ : B ≤ Z := by rw [← hZ, ← HBW.out]; exact HB1.out.size
        have hcZ : bc < Z := by omega
        have HS1 : Hid ((Below Z w1 w1 ∧ X < w1.heap.size) ∧ (w1.cell? ⟨X, 0, none⟩ = some (.int .i64 (kn : Int)) ∧ w1.cell? ⟨X, 1, none⟩ = some (.int .i64 x.f) ∧ w1.cell? ⟨X, 2, none⟩ = some (.int .i64 x.t) ∧ w1.cell? ⟨X, 3, none⟩ = some (.int .i64 x.a) ∧ w1.cell? ⟨X, 4, none⟩ = some (.int .i64 x.c) ∧ w1.cell? ⟨X, 5, none⟩ = some (.int .i64 x.s)) ∧ (w1.cell? ⟨bc, yc, none⟩ = some (.string g.n) ∧ w1.cell? ⟨bc, yc + 1, none⟩ = some (.int .i64 g.r) ∧ w1.cell? ⟨bc, yc + 2, none⟩ = some (.int .i64 g.f) ∧ w1.cell? ⟨bc, yc + 3, none⟩ = some (.int .i64 g.l))) := hid ⟨⟨Below.refl _ _, heap_lt HN.out⟩, ⟨cell_of_row _ _ 0 _ _ _ HN.out, cell_of_row _ _ 1 _ _ _ HN.out, cell_of_row _ _ 2 _ _ _ HN.out, cell_of_row _ _ 3 _ _ _ HN.out, cell_of_row _ _ 4 _ _ _ HN.out, cell_of_row _ _ 5 _ _ _ HN.out⟩, by rw [← hyc]; exact ⟨(HB1.out.cell (p := ⟨bc, oc + kn * 4, none⟩) hbc).trans d0, (HB1.out.cell (p := ⟨bc, oc + kn * 4 + 1, none⟩) hbc).trans d1, (HB1.out.cell (p := ⟨bc, oc + kn * 4 + 2, none⟩) hbc).trans d2, (HB1.out.cell (p := ⟨bc, oc + kn * 4 + 3, none⟩) hbc).trans d3⟩⟩
        have hkm2 : (kn : Int) < (m : Int) := by omega
        have hin : (i : Int) < (n : Int) := by omega
        have HXZ : Hid (X < Z) := hid (by rw [← hZ]; exact heap_lt HN.out)
        clear d0 d1 d2 d3 hbc hBs hkn hknm hZ
        refine wp_region_held_drew (S := (fun wr => (Below Z w1 wr ∧ X < wr.heap.size) ∧ (wr.cell? ⟨X, 0, none⟩ = some (.int .i64 (kn : Int)) ∧ wr.cell? ⟨X, 1, none⟩ = some (.int .i64 x.f) ∧ wr.cell? ⟨X, 2, none⟩ = some (.int .i64 x.t) ∧ wr.cell? ⟨X, 3, none⟩ = some (.int .i64 x.a) ∧ wr.cell? ⟨X, 4, none⟩ = some (.int .i64 x.c) ∧ wr.cell? ⟨X, 5, none⟩ = some (.int .i64 x.s)) ∧ (wr.cell? ⟨bc, yc, none⟩ = some (.string g.n) ∧ wr.cell? ⟨bc, yc + 1, none⟩ = some (.int .i64 g.r) ∧ wr.cell? ⟨bc, yc + 2, none⟩ = some (.int .i64 g.f) ∧ wr.cell? ⟨bc, yc + 3, none⟩ = some (.int .i64 g.l)))) (by kernel_rfl) (dt_keep hcZ HS1.out ((Below.refl _ _).drew) hZZ) (fun hHeld => ?_)
        refine wpAnyH_take (i := 0) (oi := { dst := some 34, op := Op.move (Operand.tmp 0), type := 23, pos := "pay.go:50", after := #[], guard := none }) (v := ?_) rfl (by kernel_rfl) (by kernel_rfl) (by kernel_rfl) (fun _ _ _ h => h) (Or.inl ⟨by rfl, ?_⟩) (by assumption) ?_
        rotate_left
        · intro w hSw; (try dsimp only at hSw); go_simp; try (with_reducible rfl)
        try simp only [Act.put, List.setIfInBounds_toArray, List.set_cons_zero, List.set_cons_succ]
        refine wpAnyH_take (i := 1) (oi := { dst := some 35, op := Op.fieldAddr 36 (Operand.tmp 15) 0, type := 0, pos := "pay.go:50", after := #[], guard := none }) (v := ?_) rfl (by kernel_rfl) (by kernel_rfl) (by kernel_rfl) (fun _ _ _ h => h) (Or.inl ⟨by rfl, ?_⟩) (by assumption) ?_
        rotate_left
        · intro w hSw; (try dsimp only at hSw); go_simp; try (with_reducible rfl)
        try simp only [Act.put, List.setIfInBounds_toArray, List.set_cons_zero, List.set_cons_succ]
        refine wpAnyH_take (i := 2) (oi := { dst := some 36, op := Op.load 3 (Operand.tmp 35), type := 3, pos := "pay.go:50", after := #[{ on := 1, ground := Ground.data }], guard := none }) (v := ?_) rfl (by kernel_rfl) (by kernel_rfl) (by kernel_rfl) (fun _ _ _ h => h) (Or.inl ⟨by rfl, ?_⟩) (by assumption) ?_
        rotate_left
        · intro w hSw; (try dsimp only at hSw); go_simp; try (with_reducible rfl)
        try simp only [Act.put, List.setIfInBounds_toArray, List.set_cons_zero, List.set_cons_succ]
        refine wpAnyH_take (i := 3) (oi := { dst := some 37, op := Op.indexAddr 23 (Operand.tmp 34) (Operand.tmp 36), type := 0, pos := "pay.go:50", after := #[{ on := 0, ground := Ground.data }, { on := 2, ground := Ground.data }], guard := none }) (v := ?_) rfl (by kernel_rfl) (by kernel_rfl) (by kernel_rfl) (fun _ _ _ h => h) (Or.inl ⟨by rfl, ?_⟩) (by assumption) ?_
        rotate_left
        · intro w hSw; (try dsimp only at hSw); go_simp; try (with_reducible rfl)
        try simp only [Act.put, List.setIfInBounds_toArray, List.set_cons_zero, List.set_cons_succ]
        refine wpAnyH_take (i := 4) (oi := { dst := some 38, op := Op.load 49 (Operand.tmp 37), type := 49, pos := "pay.go:50", after := #[{ on := 3, ground := Ground.data }], guard := none }) (v := ?_) rfl (by kernel_rfl) (by kernel_rfl) (by kernel_rfl) (fun _ _ _ h => h) (Or.inl ⟨by rfl, ?_⟩) (by assumption) ?_
        rotate_left
        · intro w hSw; (try dsimp only at hSw); go_simp; try (with_reducible rfl)
        try simp only [Act.put, List.setIfInBounds_toArray, List.set_cons_zero, List.set_cons_succ]
        refine wpAnyH_take (i := 5) (oi := { dst := some 39, op := Op.fieldAddr 36 (Operand.tmp 15) 4, type := 0, pos := "pay.go:50", after := #[], guard := none }) (v := ?_) rfl (by kernel_rfl) (by kernel_rfl) (by kernel_rfl) (fun _ _ _ h => h) (Or.inl ⟨by rfl, ?_⟩) (by assumption) ?_
        rotate_left
        · intro w hSw; (try dsimp only at hSw); go_simp; try (with_reducible rfl)
        try simp only [Act.put, List.setIfInBounds_toArray, List.set_cons_zero, List.set_cons_succ]
        refine wpAnyH_take (i := 6) (oi := { dst := some 40, op := Op.load 3 (Operand.tmp 39), type := 3, pos := "pay.go:50", after := #[{ on := 5, ground := Ground.data }], guard := none }) (v := ?_) rfl (by kernel_rfl) (by kernel_rfl) (by kernel_rfl) (fun _ _ _ h => h) (Or.inl ⟨by rfl, ?_⟩) (by assumption) ?_
        rotate_left
        · intro w hSw; (try dsimp only at hSw); go_simp; try (with_reducible rfl)
        try simp only [Act.put, List.setIfInBounds_toArray, List.set_cons_zero, List.set_cons_succ]
        refine wpAnyH_take (i := 7) (oi := { dst := some 41, op := Op.move (Operand.tmp 2), type := 3, pos := "pay.go:50", after := #[], guard := none }) (v := ?_) rfl (by kernel_rfl) (by kernel_rfl) (by kernel_rfl) (fun _ _ _ h => h) (Or.inl ⟨by rfl, ?_⟩) (by assumption) ?_
        rotate_left
        · intro w hSw; (try dsimp only at hSw); go_simp; try (with_reducible rfl)
        try simp only [Act.put, List.setIfInBounds_toArray, List.set_cons_zero, List.set_cons_succ]
        refine wpAnyH_take (i := 8) (oi := { dst := some 42, op := Op.fieldAddr 36 (Operand.tmp 15) 2, type := 0, pos := "pay.go:50", after := #[], guard := none }) (v := ?_) rfl (by kernel_rfl) (by kernel_rfl) (by kernel_rfl) (fun _ _ _ h => h) (Or.inl ⟨by rfl, ?_⟩) (by assumption) ?_
        rotate_left
        · intro w hSw; (try dsimp only at hSw); go_simp; try (with_reducible rfl)
        try simp only [Act.put, List.setIfInBounds_toArray, List.set_cons_zero, List.set_cons_succ]
        refine wpAnyH_take (i := 9) (oi := { dst := some 43, op := Op.load 3 (Operand.tmp 42), type := 3, pos := "pay.go:50", after := #[{ on := 8, ground := Ground.data }], guard := none }) (v := ?_) rfl (by kernel_rfl) (by kernel_rfl) (by kernel_rfl) (fun _ _ _ h => h) (Or.inl ⟨by rfl, ?_⟩) (by assumption) ?_
        rotate_left
        · intro w hSw; (try dsimp only at hSw); go_simp; try (with_reducible rfl)
        try simp only [Act.put, List.setIfInBounds_toArray, List.set_cons_zero, List.set_cons_succ]
        refine wpAnyH_take (i := 10) (oi := { dst := some 44, op := Op.move (Operand.tmp 3), type := 3, pos := "pay.go:50", after := #[], guard := none }) (v := ?_) rfl (by kernel_rfl) (by kernel_rfl) (by kernel_rfl) (fun _ _ _ h => h) (Or.inl ⟨by rfl, ?_⟩) (by assumption) ?_
        rotate_left
        · intro w hSw; (try dsimp only at hSw); go_simp; try (with_reducible rfl)
        try simp only [Act.put, List.setIfInBounds_toArray, List.set_cons_zero, List.set_cons_succ]
        refine wpAnyH_take (i := 12) (oi := { dst := some 46, op := Op.fieldAddr 36 (Operand.tmp 15) 3, type := 0, pos := "pay.go:50", after := #[], guard := none }) (v := ?_) rfl (by kernel_rfl) (by kernel_rfl) (by kernel_rfl) (fun _ _ _ h => h) (Or.inl ⟨by rfl, ?_⟩) (by assumption) ?_
        rotate_left
        · intro w hSw; (try dsimp only at hSw); go_simp; try (with_reducible rfl)
        try simp only [Act.put, List.setIfInBounds_toArray, List.set_cons_zero, List.set_cons_succ]
        refine wpAnyH_take (i := 13) (oi := { dst := some 47, op := Op.load 3 (Operand.tmp 46), type := 3, pos := "pay.go:50", after := #[{ on := 12, ground := Ground.data }], guard := none }) (v := ?_) rfl (by kernel_rfl) (by kernel_rfl) (by kernel_rfl) (fun _ _ _ h => h) (Or.inl ⟨by rfl, ?_⟩) (by assumption) ?_
        rotate_left
        · intro w hSw; (try dsimp only at hSw); go_simp; try (with_reducible rfl)
        try simp only [Act.put, List.setIfInBounds_toArray, List.set_cons_zero, List.set_cons_succ]
        refine wpAnyH_ready (rs := [11]) (by kernel_rfl) (by simp) ?_
        refine AllReadyH.cons (o := { dst := some 45, op := Op.call { callee := Callee.value (Operand.func 68), args := #[Operand.tmp 41, Operand.tmp 43, Operand.tmp 44], argTypes := #[3, 3, 3] }, type := 3, pos := "pay.go:50", after := #[{ on := 7, ground := Ground.data }, { on := 9, ground := Ground.data }, { on := 10, ground := Ground.data }], guard := none }) rfl (fun K hK => ?_) AllReadyH.nil
        go_simp
        refine (HST.out _).mono ?_
        rintro e w5 ⟨rfl, hb⟩
        try go_wp2_with fail
        refine hK.out _ _ (dt_keep hcZ (by assumption) hb hZZ) (fun hHeld2 => ?_)
        clear hK K
        try simp only [Act.put, List.setIfInBounds_toArray, List.set_cons_zero, List.set_cons_succ]
        refine wpAnyH_ready (rs := [14]) (by kernel_rfl) (by simp) ?_
        refine AllReadyH.cons (o := { dst := some 48, op := Op.call { callee := Callee.value (Operand.func 64), args := #[Operand.tmp 38, Operand.tmp 40, Operand.tmp 45, Operand.tmp 47], argTypes := #[49, 3, 3, 3] }, type := 3, pos := "pay.go:50", after := #[{ on := 4, ground := Ground.data }, { on := 6, ground := Ground.data }, { on := 11, ground := Ground.data }, { on := 13, ground := Ground.data }, { on := 11, ground := Ground.chain }], guard := none }) rfl (fun K hK => ?_) AllReadyH.nil
        go_simp
        refine (HPY.out _).mono ?_
        rintro e w5 ⟨rfl, hb⟩
        try go_wp2_with fail
        refine hK.out _ _ (dt_keep hcZ (by assumption) hb hZZ) (fun hHeld3 => ?_)
        clear hK K
        try simp only [Act.put, List.setIfInBounds_toArray, List.set_cons_zero, List.set_cons_succ]
        refine wpAnyH_take (i := 15) (oi := { dst := some 16, op := Op.assign (Operand.tmp 48), type := 3, pos := "pay.go:50", after := #[{ on := 14, ground := Ground.data }, { on := 14, ground := Ground.chain }, { on := 0, ground := Ground.phase }, { on := 1, ground := Ground.phase }, { on := 2, ground := Ground.phase }, { on := 3, ground := Ground.phase }, { on := 4, ground := Ground.phase }, { on := 5, ground := Ground.phase }, { on := 6, ground := Ground.phase }, { on := 7, ground := Ground.phase }, { on := 8, ground := Ground.phase }, { on := 9, ground := Ground.phase }, { on := 10, ground := Ground.phase }, { on := 11, ground := Ground.phase }, { on := 12, ground := Ground.phase }, { on := 13, ground := Ground.phase }, { on := 14, ground := Ground.phase }], guard := none }) (v := ?_) rfl (by kernel_rfl) (by kernel_rfl) (by kernel_rfl) (fun _ _ _ h => h) (Or.inl ⟨by rfl, ?_⟩) (by assumption) ?_
        rotate_left
        · intro w hSw; (try dsimp only at hSw); go_simp; try (with_reducible rfl)
        try simp only [Act.put, List.setIfInBounds_toArray, List.set_cons_zero, List.set_cons_succ]
        refine wpAnyH_done (by kernel_rfl) ?_ _
        have f5 := hHeld3.2.1.2.2.2.2.2
        have hb4 := hHeld3.1.1
        have HF := hid (HB1.out.trans (hb4.mono hBZ))
        have HROW4 : Hid (RowP w5 B (.slice (some ⟨gb, 0, none⟩) n c) n (mvP C P W u i)) := hid (row_stays HROW1.out (hb4.mono (Nat.le_of_eq HZ.out)))
        clear hHeld hHeld2 hHeld3 hb4 HS1 HB1 HROW1
        have c5 := (RowP.cell HROW4.out hlt).2.2.2.2.2
        have fz : ∀ j, w5.frozen? ⟨gb, j, none⟩ = false := fun j => HROW4.out.frozenAt j
        have HRP := hid (HROW4.out.putS i mx)
        have HBP := hid (HF.out.setCell (p := ⟨gb, i * 6 + 5, none⟩) HGB.out (.int .i64 mx))
        have HX5 : Hid ((w5.setCell ⟨gb, i * 6 + 5, none⟩ (.int .i64 mx)).cell? ⟨X, 5, none⟩ = some (.int .i64 x.s)) := hid (by rw [World.cell?_of_block (Below.heap_setCell w5 ⟨gb, i * 6 + 5, none⟩ (.int .i64 mx) X (fun e => hgX e.symm))]; exact f5)
        go_upto_region 10 with fail
        clear c5 fz f5
        generalize w5.setCell _ _ = w6 at HRP HBP HX5 ⊢
        have HRQ : Hid (RowP w6 B (.slice (some ⟨gb, 0, none⟩) n c) n (mvP C P W u (i + 1))) := hid (RowP.congr HRP.out (fun j _ => HMS.out j))
        have g5 := (RowP.cell HRQ.out hlt).2.2.2.2.2
        have hm5 : (mvP C P W u (i + 1) i).s = mx := by rw [← HMS.out i, updP_same]; rfl
        rw [hm5] at g5
        have x5 := HX5.out
        clear hm5
        go_quiet (fail)
        have HBQ : Hid (Below B w (World.drewN w6 nq)) := hid (HBP.out.trans (Joins.below_draws _ _ _))
        have HRR : Hid (RowP (World.drewN w6 nq) B (.slice (some ⟨gb, 0, none⟩) n c) n (mvP C P W u (i + 1))) := hid (row_stays HRQ.out (Joins.below_draws _ _ _))
        clear g5 x5
        go_wp2_with fail
        go_roundw
        case rel => exact ⟨i + 1, s + (mx - x.s), by omega, by go_num, rfl, hid ⟨HSTEP.out.symm, HRR.out, HBQ.out⟩⟩
        case measure => simp [intOf]; omega
      · obtain rfl : n = i := by omega
        have HSE := hid HS.out.1
        have HRE : Hid (RowP wr B (.slice vo n c) n (trP C P W u)) := hid (RowP.congr HS.out.2.1 (fun j hj => mvP_end C P W u n j hj))
        have HBE := hid HS.out.2.2
        clear HS
        by_cases hbig : 1000000000000 < s
        · have hq := HR.out
          rw [if_pos (by rw [← HSE.out]; exact hbig)] at hq
          cases hq
          go_wp2_with fail
          go_ret3
          exact HPOST.out none 0 _ (World.ownsRow_nil _ _ _ _) HBE.out
        · have hq := HR.out
          rw [if_neg (by rw [← HSE.out]; exact hbig), ← HSE.out] at hq
          cases hq
          go_wp2_with fail
          go_ret3
          exact HPOST.out _ _ _ HRE.out HBE.out
  · have hb : (te == 0) = false := by simpa using h0
    rw [if_pos h0] at hr
    cases hr
    go_enter Try.func41, Try.ntmps41
    go_wp2_with fail
    refine HV.out.mono ?_
    rintro e w2 ⟨rfl, hb2⟩
    rw [HBW.out] at hb2
    go_wp2_with fail
    go_ret3
    exact HPOST.out none 0 _ (World.ownsRow_nil _ _ _ _) hb2
end Go.Proofs.Ytnfcibcpmaehoaa
