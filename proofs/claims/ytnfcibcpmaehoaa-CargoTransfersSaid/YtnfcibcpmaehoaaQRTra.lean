/-
  The walk of Transfer of the reference.
-/
import Derived.Test.YtnfcibcpmaehoaaQTra
import Derived.Test.YtnfcibcpmaehoaaQRo2
namespace Go.Proofs.Ytnfcibcpmaehoaa
open Go.RowKit

theorem rt_keep {Z gb i bc yc kn : Nat} {x : Par} {g : Cg} {wr w1 w2 : World} (hcB : bc < Z) (h : (Below Z wr w1 ∧ gb < w1.heap.size) ∧ (w1.cell? ⟨gb, i * 6, none⟩ = some (.int .i64 (kn : Int)) ∧ w1.cell? ⟨gb, i * 6 + 1, none⟩ = some (.int .i64 x.f) ∧ w1.cell? ⟨gb, i * 6 + 2, none⟩ = some (.int .i64 x.t) ∧ w1.cell? ⟨gb, i * 6 + 3, none⟩ = some (.int .i64 x.a) ∧ w1.cell? ⟨gb, i * 6 + 4, none⟩ = some (.int .i64 x.c) ∧ w1.cell? ⟨gb, i * 6 + 5, none⟩ = some (.int .i64 x.s)) ∧ (w1.cell? ⟨bc, yc, none⟩ = some (.string g.n) ∧ w1.cell? ⟨bc, yc + 1, none⟩ = some (.int .i64 g.r) ∧ w1.cell? ⟨bc, yc + 2, none⟩ = some (.int .i64 g.f) ∧ w1.cell? ⟨bc, yc + 3, none⟩ = some (.int .i64 g.l))) (hb : Below w1.heap.size w1 w2) (hB : Z ≤ wr.heap.size) : (Below Z wr w2 ∧ gb < w2.heap.size) ∧ (w2.cell? ⟨gb, i * 6, none⟩ = some (.int .i64 (kn : Int)) ∧ w2.cell? ⟨gb, i * 6 + 1, none⟩ = some (.int .i64 x.f) ∧ w2.cell? ⟨gb, i * 6 + 2, none⟩ = some (.int .i64 x.t) ∧ w2.cell? ⟨gb, i * 6 + 3, none⟩ = some (.int .i64 x.a) ∧ w2.cell? ⟨gb, i * 6 + 4, none⟩ = some (.int .i64 x.c) ∧ w2.cell? ⟨gb, i * 6 + 5, none⟩ = some (.int .i64 x.s)) ∧ (w2.cell? ⟨bc, yc, none⟩ = some (.string g.n) ∧ w2.cell? ⟨bc, yc + 1, none⟩ = some (.int .i64 g.r) ∧ w2.cell? ⟨bc, yc + 2, none⟩ = some (.int .i64 g.f) ∧ w2.cell? ⟨bc, yc + 3, none⟩ = some (.int .i64 g.l)) := by
  obtain ⟨⟨h1, h2⟩, ⟨c0, c1, c2, c3, c4, c5⟩, d0, d1, d2, d3⟩ := h
  have hBs : Z ≤ w1.heap.size := Nat.le_trans hB h1.size
  have hbw : bc < w1.heap.size := by omega
  exact ⟨⟨h1.trans (hb.mono hBs), by have := hb.size; omega⟩, ⟨(hb.cell (p := ⟨gb, i * 6, none⟩) h2).trans c0, (hb.cell (p := ⟨gb, i * 6 + 1, none⟩) h2).trans c1, (hb.cell (p := ⟨gb, i * 6 + 2, none⟩) h2).trans c2, (hb.cell (p := ⟨gb, i * 6 + 3, none⟩) h2).trans c3, (hb.cell (p := ⟨gb, i * 6 + 4, none⟩) h2).trans c4, (hb.cell (p := ⟨gb, i * 6 + 5, none⟩) h2).trans c5⟩,
    (hb.cell (p := ⟨bc, yc, none⟩) hbw).trans d0, (hb.cell (p := ⟨bc, yc + 1, none⟩) hbw).trans d1, (hb.cell (p := ⟨bc, yc + 2, none⟩) hbw).trans d2, (hb.cell (p := ⟨bc, yc + 3, none⟩) hbw).trans d3⟩
theorem mvP_stay (C : Nat → Cg) (P : Nat → Par) (W u : Int) (i j : Nat) (h : trS C P W u i = (P i).s) : mvP C P W u i j = mvP C P W u (i + 1) j := by
  rw [← mvP_succ, mvP_at, h]
  by_cases e : j = i
  · subst e; rw [updP_same, mvP_at]; rfl
  · rw [updP_ne _ _ e]
set_option maxRecDepth 100000 in
set_option maxHeartbeats 6400000 in
theorem rtransfer_any (co : Option Addr) (m cc : Nat) (C : Nat → Cg) (hs : ∀ j, j < m → (C j).n.size ≤ maxLen) (po : Option Addr) (n pc : Nat) (P : Nat → Par) (W u : Int) (k : Nat) (v2 v3 : Int) (hr : trR m C n P W u = (k, v2, v3)) (w : World) (hC : Cgs w co m C) (hP : Pars w po n P) :
    Calls Try.prog 40 #[.slice co m cc, .slice po n pc, .int .i64 W, .int .i64 u] w (TrPost k v2 v3 (trP C P W u) w) := by
  obtain ⟨B, hB⟩ : ∃ B, w.heap.size = B := ⟨_, rfl⟩
  have HBW := hid hB
  have HPOST : Hid (∀ vo c w', RowP w' B (.slice vo k c) k (trP C P W u) → Below B w w' → TrPost k v2 v3 (trP C P W u) w (.returned (.tuple #[.slice vo k c, .int .i64 v2, .int .i64 v3])) w') := hid (fun vo c w' h1 h2 => ⟨vo, c, rfl, by rw [hB]; exact h1, by rw [hB]; exact h2⟩)
  have HP : Hid (∀ wr, Below B w wr → Pars wr po n P) := hid (fun wr hb => hP.stays (by rw [hB]; exact hb))
  have HC : Hid (∀ wr, Below B w wr → Cgs wr co m C) := hid (fun wr hb => hC.stays (by rw [hB]; exact hb))
  have HV := hid (judge_any co m cc C hs po n pc P W u w hC hP)
  obtain ⟨te, hte⟩ : ∃ x, TErr m C n P W u = x := ⟨_, rfl⟩
  rw [hte] at HV
  unfold trR at hr
  rw [hte] at hr
  generalize hPO : TrPost k v2 v3 (trP C P W u) w = PO at HPOST ⊢
  clear hB hC hP hs hPO
  by_cases h0 : te = 0
  · subst h0
    have HT := hid (TErr.trip hte)
    rw [if_neg (by simp)] at hr
    have HR := hid hr
    have hn := HT.out.ld.le
    have hm := HT.out.cg.le
    clear hte hr
    go_enter Try.func40, Try.ntmps40
    go_wp2_with fail
    refine HV.out.mono ?_
    rintro e w2 ⟨rfl, hb2⟩
    have HB2 : Hid (Below B w w2) := hid (by rw [← HBW.out]; exact hb2)
    clear hb2 HV
    have HP2 := hid (HP.out _ HB2.out)
    have HNN : Hid (n ≤ 100000) := hid (by omega)
    go_wp2_with (at_builtin; refine wpList_append_fresh w2 rfl _ _ rfl rfl rfl po n pc P rfl HP2.out HNN.out ?_; intro vo c w3 hrow hb3)
    have hs2 : B ≤ w2.heap.size := by rw [← HBW.out]; exact HB2.out.size
    have HB3 := hid (HB2.out.trans (hb3.mono hs2))
    have HROW0 : Hid (RowP w3 B (.slice vo n c) n (mvP C P W u 0)) := hid (RowP.congr (row_mono hrow hs2) (fun i _ => (mvP_zero C P W u i).symm))
    clear hrow hb3 hs2
    go_wp2_with fail
    go_loopw [13, 14] (fun sv iv wr => ∃ (i : Nat) (s : Int), i ≤ n ∧ iv = .int .i64 i ∧ sv = .int .i64 s ∧ s ≤ 1000000000000 ∧ Hid (s = grS C P W u i ∧ RowP wr B (.slice vo n c) n (mvP C P W u i) ∧ Below B w wr)) (fun _ iv _ => n - (intOf iv).toNat)
    case atStart => exact ⟨0, 0, Nat.zero_le _, rfl, rfl, by decide, hid ⟨rfl, HROW0.out, HB3.out⟩⟩
    case round =>
      clear HROW0 HB3
      obtain ⟨i, s, hi, rfl, rfl, hs0, HS⟩ := hrel
      by_cases hlt : i < n
      · have HSL := hid hs0
        have HROW := hid HS.out.2.1
        have HBR := hid HS.out.2.2
        obtain ⟨gb, gc, ev, hgB, hgl⟩ := HROW.out.form (by omega)
        cases ev
        obtain ⟨a0, a1, a2, a3, a4, a5⟩ := RowP.cell HROW.out hlt
        rw [mvP_at] at a0 a1 a2 a3 a4 a5
        have hok := HT.out.ld.ok i hlt
        have hkm := HT.out.kd i hlt
        have hpd := HT.out.pd hlt
        have hgs := HT.out.gr i hi
        rw [← HS.out.1] at hgs
        have hstep : grS C P W u (i + 1) = s + (trS C P W u i - (P i).s) := by rw [HS.out.1]; rfl
        have htr : trS C P W u i = max (P i).s (pdP C P W u i) := rfl
        have HMS := hid (mvP_succ C P W u i)
        have hfl := mvP_at C P W u i
        obtain ⟨mx, hmx⟩ : ∃ x, trS C P W u i = x := ⟨_, rfl⟩
        rw [hmx] at hstep htr HMS
        obtain ⟨x, hx⟩ : ∃ x, P i = x := ⟨_, rfl⟩
        obtain ⟨v, hv⟩ : ∃ v, pdP C P W u i = v := ⟨_, rfl⟩
        have hpv := hv
        unfold pdP at hpv
        rw [hx] at a0 a1 a2 a3 a4 a5 hok hkm hpv hstep htr hfl
        rw [hv] at hpd htr
        have HFL := hid hfl
        obtain ⟨kn, hkn⟩ : ∃ kn : Nat, x.k = kn := ⟨x.k.toNat, by have := hok.k1; omega⟩
        have hknm : kn < m := by omega
        rw [hkn, Int.toNat_natCast] at hpv
        obtain ⟨D, hD⟩ : ∃ D, dst W x.t u = D := ⟨_, rfl⟩
        rw [hD] at hpv
        have hdb := dst_bd HT.out.w1 HT.out.w2 hok.t1 hok.t2 HT.out.u1 HT.out.u2
        rw [hD] at hdb
        obtain ⟨bc, oc, ec, hbc, d0, d1, d2, d3⟩ := HC.out w (Below.refl _ _) kn hknm
        subst ec
        rw [HBW.out] at hbc
        have hokc := HT.out.cg.ok kn hknm
        obtain ⟨g, hg⟩ : ∃ g, C kn = g := ⟨_, rfl⟩
        rw [hg] at d0 d1 d2 d3 hpv hokc
        obtain ⟨yc, hyc⟩ : ∃ y, oc + kn * 4 = y := ⟨_, rfl⟩
        have HST := hid (fun w => far_any W x.t u D HT.out.w1 HT.out.w2 hok.t1 hok.t2 HT.out.u1 HT.out.u2 hD w)
        have HPY := hid (fun w => rpay_any g hokc x.c D x.a (by have := hok.c1; omega) hok.c2 hdb.2.2.2.2.1 (by omega) hok.a1 hok.a2 v hpv w)
        have hs1 := hok.s1
        have hs2 := hok.s2
        have HTR := hid htr
        have HPD := hid hpd
        have HGS := hid hgs
        have HS12 := hid (And.intro hs1 hs2)
        have HGM := hid (fun d => Trip.gmono (m := m) (C := C) (P := P) (W := W) (u := u) (n := n) d (i + 1))
        have HST0 : Hid (mx = x.s → ∀ j, mvP C P W u i j = mvP C P W u (i + 1) j) := hid (fun h j => mvP_stay C P W u i j (by rw [hmx, hx, h]))
        have km := min_is (show min 1000000 D = D by omega)
        have HSTEP := hid hstep
        rw [hkn] at a0
        have hBs : B ≤ wr.heap.size := by rw [← HBW.out]; exact HBR.out.size
        obtain ⟨Z, hZ⟩ : ∃ Z, wr.heap.size = Z := ⟨_, rfl⟩
        have HZ := hid hZ
        have hZZ : Z ≤ wr.heap.size := Nat.le_of_eq hZ.symm
        have hBZ : B ≤ Z := by omega
        have hcZ : bc < Z := by omega
        have HGB : Hid (B ≤ gb) := hid hgB
        have HS1 : Hid ((Below Z wr wr ∧ gb < wr.heap.size) ∧ (wr.cell? ⟨gb, i * 6, none⟩ = some (.int .i64 (kn : Int)) ∧ wr.cell? ⟨gb, i * 6 + 1, none⟩ = some (.int .i64 x.f) ∧ wr.cell? ⟨gb, i * 6 + 2, none⟩ = some (.int .i64 x.t) ∧ wr.cell? ⟨gb, i * 6 + 3, none⟩ = some (.int .i64 x.a) ∧ wr.cell? ⟨gb, i * 6 + 4, none⟩ = some (.int .i64 x.c) ∧ wr.cell? ⟨gb, i * 6 + 5, none⟩ = some (.int .i64 x.s)) ∧ (wr.cell? ⟨bc, yc, none⟩ = some (.string g.n) ∧ wr.cell? ⟨bc, yc + 1, none⟩ = some (.int .i64 g.r) ∧ wr.cell? ⟨bc, yc + 2, none⟩ = some (.int .i64 g.f) ∧ wr.cell? ⟨bc, yc + 3, none⟩ = some (.int .i64 g.l))) := hid ⟨⟨Below.refl _ _, hgl⟩, ⟨a0, a1, a2, a3, a4, a5⟩, by rw [← hyc]; exact ⟨(HBR.out.cell (p := ⟨bc, oc + kn * 4, none⟩) hbc).trans d0, (HBR.out.cell (p := ⟨bc, oc + kn * 4 + 1, none⟩) hbc).trans d1, (HBR.out.cell (p := ⟨bc, oc + kn * 4 + 2, none⟩) hbc).trans d2, (HBR.out.cell (p := ⟨bc, oc + kn * 4 + 3, none⟩) hbc).trans d3⟩⟩
        have hkm2 : (kn : Int) < (m : Int) := by omega
        have hin : (i : Int) < (n : Int) := by omega
        clear hx hv hpv hkm hok hpd hgs hstep htr hmx hD hdb hokc hg hs1 hs2 hfl HS hgl hgB hZ hknm hkn hbc hBs d0 d1 d2 d3 a0 a1 a2 a3 a4 a5 hs0
        go_upto_region 8 with fail
        refine wp_region_held_drew (S := (fun wx => (Below Z wr wx ∧ gb < wx.heap.size) ∧ (wx.cell? ⟨gb, i * 6, none⟩ = some (.int .i64 (kn : Int)) ∧ wx.cell? ⟨gb, i * 6 + 1, none⟩ = some (.int .i64 x.f) ∧ wx.cell? ⟨gb, i * 6 + 2, none⟩ = some (.int .i64 x.t) ∧ wx.cell? ⟨gb, i * 6 + 3, none⟩ = some (.int .i64 x.a) ∧ wx.cell? ⟨gb, i * 6 + 4, none⟩ = some (.int .i64 x.c) ∧ wx.cell? ⟨gb, i * 6 + 5, none⟩ = some (.int .i64 x.s)) ∧ (wx.cell? ⟨bc, yc, none⟩ = some (.string g.n) ∧ wx.cell? ⟨bc, yc + 1, none⟩ = some (.int .i64 g.r) ∧ wx.cell? ⟨bc, yc + 2, none⟩ = some (.int .i64 g.f) ∧ wx.cell? ⟨bc, yc + 3, none⟩ = some (.int .i64 g.l)))) (by kernel_rfl) (rt_keep hcZ HS1.out ((Below.refl _ _).drew) hZZ) (fun hHeld => ?_)
        refine wpAnyH_take (i := 0) (oi := { dst := some 33, op := Op.move (Operand.tmp 0), type := 23, pos := "ref.go:286", after := #[], guard := none }) (v := ?_) rfl (by kernel_rfl) (by kernel_rfl) (by kernel_rfl) (fun _ _ _ h => h) (Or.inl ⟨by rfl, ?_⟩) (by assumption) ?_
        rotate_left
        · intro w hSw; (try dsimp only at hSw); go_simp; try (with_reducible rfl)
        try simp only [Act.put, List.setIfInBounds_toArray, List.set_cons_zero, List.set_cons_succ]
        refine wpAnyH_take (i := 1) (oi := { dst := some 34, op := Op.move (Operand.tmp 12), type := 22, pos := "ref.go:286", after := #[], guard := none }) (v := ?_) rfl (by kernel_rfl) (by kernel_rfl) (by kernel_rfl) (fun _ _ _ h => h) (Or.inl ⟨by rfl, ?_⟩) (by assumption) ?_
        rotate_left
        · intro w hSw; (try dsimp only at hSw); go_simp; try (with_reducible rfl)
        try simp only [Act.put, List.setIfInBounds_toArray, List.set_cons_zero, List.set_cons_succ]
        refine wpAnyH_take (i := 2) (oi := { dst := some 35, op := Op.move (Operand.tmp 14), type := 3, pos := "ref.go:286", after := #[], guard := none }) (v := ?_) rfl (by kernel_rfl) (by kernel_rfl) (by kernel_rfl) (fun _ _ _ h => h) (Or.inl ⟨by rfl, ?_⟩) (by assumption) ?_
        rotate_left
        · intro w hSw; (try dsimp only at hSw); go_simp; try (with_reducible rfl)
        try simp only [Act.put, List.setIfInBounds_toArray, List.set_cons_zero, List.set_cons_succ]
        refine wpAnyH_take (i := 3) (oi := { dst := some 36, op := Op.indexAddr 22 (Operand.tmp 34) (Operand.tmp 35), type := 0, pos := "ref.go:286", after := #[{ on := 1, ground := Ground.data }, { on := 2, ground := Ground.data }], guard := none }) (v := ?_) rfl (by kernel_rfl) (by kernel_rfl) (by kernel_rfl) (fun _ _ _ h => h) (Or.inl ⟨by rfl, ?_⟩) (by assumption) ?_
        rotate_left
        · intro w hSw; (try dsimp only at hSw); go_simp; try (with_reducible rfl)
        try simp only [Act.put, List.setIfInBounds_toArray, List.set_cons_zero, List.set_cons_succ]
        refine wpAnyH_take (i := 4) (oi := { dst := some 37, op := Op.fieldAddr 36 (Operand.tmp 36) 0, type := 0, pos := "ref.go:286", after := #[{ on := 3, ground := Ground.data }], guard := none }) (v := ?_) rfl (by kernel_rfl) (by kernel_rfl) (by kernel_rfl) (fun _ _ _ h => h) (Or.inl ⟨by rfl, ?_⟩) (by assumption) ?_
        rotate_left
        · intro w hSw; (try dsimp only at hSw); go_simp; try (with_reducible rfl)
        try simp only [Act.put, List.setIfInBounds_toArray, List.set_cons_zero, List.set_cons_succ]
        refine wpAnyH_take (i := 5) (oi := { dst := some 38, op := Op.load 3 (Operand.tmp 37), type := 3, pos := "ref.go:286", after := #[{ on := 4, ground := Ground.data }], guard := none }) (v := ?_) rfl (by kernel_rfl) (by kernel_rfl) (by kernel_rfl) (fun _ _ _ h => h) (Or.inl ⟨by rfl, ?_⟩) (by assumption) ?_
        rotate_left
        · intro w hSw; (try dsimp only at hSw); go_simp; try (with_reducible rfl)
        try simp only [Act.put, List.setIfInBounds_toArray, List.set_cons_zero, List.set_cons_succ]
        refine wpAnyH_take (i := 6) (oi := { dst := some 39, op := Op.indexAddr 23 (Operand.tmp 33) (Operand.tmp 38), type := 0, pos := "ref.go:286", after := #[{ on := 0, ground := Ground.data }, { on := 5, ground := Ground.data }], guard := none }) (v := ?_) rfl (by kernel_rfl) (by kernel_rfl) (by kernel_rfl) (fun _ _ _ h => h) (Or.inl ⟨by rfl, ?_⟩) (by assumption) ?_
        rotate_left
        · intro w hSw; (try dsimp only at hSw); go_simp; try (with_reducible rfl)
        try simp only [Act.put, List.setIfInBounds_toArray, List.set_cons_zero, List.set_cons_succ]
        refine wpAnyH_take (i := 7) (oi := { dst := some 40, op := Op.load 49 (Operand.tmp 39), type := 49, pos := "ref.go:286", after := #[{ on := 6, ground := Ground.data }], guard := none }) (v := ?_) rfl (by kernel_rfl) (by kernel_rfl) (by kernel_rfl) (fun _ _ _ h => h) (Or.inl ⟨by rfl, ?_⟩) (by assumption) ?_
        rotate_left
        · intro w hSw; (try dsimp only at hSw); go_simp; try (with_reducible rfl)
        try simp only [Act.put, List.setIfInBounds_toArray, List.set_cons_zero, List.set_cons_succ]
        refine wpAnyH_take (i := 8) (oi := { dst := some 41, op := Op.move (Operand.tmp 12), type := 22, pos := "ref.go:286", after := #[], guard := none }) (v := ?_) rfl (by kernel_rfl) (by kernel_rfl) (by kernel_rfl) (fun _ _ _ h => h) (Or.inl ⟨by rfl, ?_⟩) (by assumption) ?_
        rotate_left
        · intro w hSw; (try dsimp only at hSw); go_simp; try (with_reducible rfl)
        try simp only [Act.put, List.setIfInBounds_toArray, List.set_cons_zero, List.set_cons_succ]
        refine wpAnyH_take (i := 9) (oi := { dst := some 42, op := Op.move (Operand.tmp 14), type := 3, pos := "ref.go:286", after := #[], guard := none }) (v := ?_) rfl (by kernel_rfl) (by kernel_rfl) (by kernel_rfl) (fun _ _ _ h => h) (Or.inl ⟨by rfl, ?_⟩) (by assumption) ?_
        rotate_left
        · intro w hSw; (try dsimp only at hSw); go_simp; try (with_reducible rfl)
        try simp only [Act.put, List.setIfInBounds_toArray, List.set_cons_zero, List.set_cons_succ]
        refine wpAnyH_take (i := 10) (oi := { dst := some 43, op := Op.indexAddr 22 (Operand.tmp 41) (Operand.tmp 42), type := 0, pos := "ref.go:286", after := #[{ on := 8, ground := Ground.data }, { on := 9, ground := Ground.data }], guard := none }) (v := ?_) rfl (by kernel_rfl) (by kernel_rfl) (by kernel_rfl) (fun _ _ _ h => h) (Or.inl ⟨by rfl, ?_⟩) (by assumption) ?_
        rotate_left
        · intro w hSw; (try dsimp only at hSw); go_simp; try (with_reducible rfl)
        try simp only [Act.put, List.setIfInBounds_toArray, List.set_cons_zero, List.set_cons_succ]
        refine wpAnyH_take (i := 11) (oi := { dst := some 44, op := Op.fieldAddr 36 (Operand.tmp 43) 4, type := 0, pos := "ref.go:286", after := #[{ on := 10, ground := Ground.data }], guard := none }) (v := ?_) rfl (by kernel_rfl) (by kernel_rfl) (by kernel_rfl) (fun _ _ _ h => h) (Or.inl ⟨by rfl, ?_⟩) (by assumption) ?_
        rotate_left
        · intro w hSw; (try dsimp only at hSw); go_simp; try (with_reducible rfl)
        try simp only [Act.put, List.setIfInBounds_toArray, List.set_cons_zero, List.set_cons_succ]
        refine wpAnyH_take (i := 12) (oi := { dst := some 45, op := Op.load 3 (Operand.tmp 44), type := 3, pos := "ref.go:286", after := #[{ on := 11, ground := Ground.data }], guard := none }) (v := ?_) rfl (by kernel_rfl) (by kernel_rfl) (by kernel_rfl) (fun _ _ _ h => h) (Or.inl ⟨by rfl, ?_⟩) (by assumption) ?_
        rotate_left
        · intro w hSw; (try dsimp only at hSw); go_simp; try (with_reducible rfl)
        try simp only [Act.put, List.setIfInBounds_toArray, List.set_cons_zero, List.set_cons_succ]
        refine wpAnyH_take (i := 13) (oi := { dst := some 46, op := Op.move (Operand.tmp 12), type := 22, pos := "ref.go:286", after := #[], guard := none }) (v := ?_) rfl (by kernel_rfl) (by kernel_rfl) (by kernel_rfl) (fun _ _ _ h => h) (Or.inl ⟨by rfl, ?_⟩) (by assumption) ?_
        rotate_left
        · intro w hSw; (try dsimp only at hSw); go_simp; try (with_reducible rfl)
        try simp only [Act.put, List.setIfInBounds_toArray, List.set_cons_zero, List.set_cons_succ]
        refine wpAnyH_take (i := 14) (oi := { dst := some 47, op := Op.move (Operand.tmp 14), type := 3, pos := "ref.go:286", after := #[], guard := none }) (v := ?_) rfl (by kernel_rfl) (by kernel_rfl) (by kernel_rfl) (fun _ _ _ h => h) (Or.inl ⟨by rfl, ?_⟩) (by assumption) ?_
        rotate_left
        · intro w hSw; (try dsimp only at hSw); go_simp; try (with_reducible rfl)
        try simp only [Act.put, List.setIfInBounds_toArray, List.set_cons_zero, List.set_cons_succ]
        refine wpAnyH_take (i := 15) (oi := { dst := some 48, op := Op.indexAddr 22 (Operand.tmp 46) (Operand.tmp 47), type := 0, pos := "ref.go:286", after := #[{ on := 13, ground := Ground.data }, { on := 14, ground := Ground.data }], guard := none }) (v := ?_) rfl (by kernel_rfl) (by kernel_rfl) (by kernel_rfl) (fun _ _ _ h => h) (Or.inl ⟨by rfl, ?_⟩) (by assumption) ?_
        rotate_left
        · intro w hSw; (try dsimp only at hSw); go_simp; try (with_reducible rfl)
        try simp only [Act.put, List.setIfInBounds_toArray, List.set_cons_zero, List.set_cons_succ]
        refine wpAnyH_take (i := 16) (oi := { dst := some 49, op := Op.fieldAddr 36 (Operand.tmp 48) 2, type := 0, pos := "ref.go:286", after := #[{ on := 15, ground := Ground.data }], guard := none }) (v := ?_) rfl (by kernel_rfl) (by kernel_rfl) (by kernel_rfl) (fun _ _ _ h => h) (Or.inl ⟨by rfl, ?_⟩) (by assumption) ?_
        rotate_left
        · intro w hSw; (try dsimp only at hSw); go_simp; try (with_reducible rfl)
        try simp only [Act.put, List.setIfInBounds_toArray, List.set_cons_zero, List.set_cons_succ]
        refine wpAnyH_take (i := 17) (oi := { dst := some 50, op := Op.load 3 (Operand.tmp 49), type := 3, pos := "ref.go:286", after := #[{ on := 16, ground := Ground.data }], guard := none }) (v := ?_) rfl (by kernel_rfl) (by kernel_rfl) (by kernel_rfl) (fun _ _ _ h => h) (Or.inl ⟨by rfl, ?_⟩) (by assumption) ?_
        rotate_left
        · intro w hSw; (try dsimp only at hSw); go_simp; try (with_reducible rfl)
        try simp only [Act.put, List.setIfInBounds_toArray, List.set_cons_zero, List.set_cons_succ]
        refine wpAnyH_take (i := 18) (oi := { dst := some 51, op := Op.move (Operand.tmp 3), type := 3, pos := "ref.go:286", after := #[], guard := none }) (v := ?_) rfl (by kernel_rfl) (by kernel_rfl) (by kernel_rfl) (fun _ _ _ h => h) (Or.inl ⟨by rfl, ?_⟩) (by assumption) ?_
        rotate_left
        · intro w hSw; (try dsimp only at hSw); go_simp; try (with_reducible rfl)
        try simp only [Act.put, List.setIfInBounds_toArray, List.set_cons_zero, List.set_cons_succ]
        refine wpAnyH_take (i := 19) (oi := { dst := some 52, op := Op.move (Operand.tmp 2), type := 3, pos := "ref.go:286", after := #[], guard := none }) (v := ?_) rfl (by kernel_rfl) (by kernel_rfl) (by kernel_rfl) (fun _ _ _ h => h) (Or.inl ⟨by rfl, ?_⟩) (by assumption) ?_
        rotate_left
        · intro w hSw; (try dsimp only at hSw); go_simp; try (with_reducible rfl)
        try simp only [Act.put, List.setIfInBounds_toArray, List.set_cons_zero, List.set_cons_succ]
        refine wpAnyH_take (i := 22) (oi := { dst := some 55, op := Op.move (Operand.tmp 12), type := 22, pos := "ref.go:286", after := #[], guard := none }) (v := ?_) rfl (by kernel_rfl) (by kernel_rfl) (by kernel_rfl) (fun _ _ _ h => h) (Or.inl ⟨by rfl, ?_⟩) (by assumption) ?_
        rotate_left
        · intro w hSw; (try dsimp only at hSw); go_simp; try (with_reducible rfl)
        try simp only [Act.put, List.setIfInBounds_toArray, List.set_cons_zero, List.set_cons_succ]
        refine wpAnyH_take (i := 23) (oi := { dst := some 56, op := Op.move (Operand.tmp 14), type := 3, pos := "ref.go:286", after := #[], guard := none }) (v := ?_) rfl (by kernel_rfl) (by kernel_rfl) (by kernel_rfl) (fun _ _ _ h => h) (Or.inl ⟨by rfl, ?_⟩) (by assumption) ?_
        rotate_left
        · intro w hSw; (try dsimp only at hSw); go_simp; try (with_reducible rfl)
        try simp only [Act.put, List.setIfInBounds_toArray, List.set_cons_zero, List.set_cons_succ]
        refine wpAnyH_take (i := 24) (oi := { dst := some 57, op := Op.indexAddr 22 (Operand.tmp 55) (Operand.tmp 56), type := 0, pos := "ref.go:286", after := #[{ on := 22, ground := Ground.data }, { on := 23, ground := Ground.data }], guard := none }) (v := ?_) rfl (by kernel_rfl) (by kernel_rfl) (by kernel_rfl) (fun _ _ _ h => h) (Or.inl ⟨by rfl, ?_⟩) (by assumption) ?_
        rotate_left
        · intro w hSw; (try dsimp only at hSw); go_simp; try (with_reducible rfl)
        try simp only [Act.put, List.setIfInBounds_toArray, List.set_cons_zero, List.set_cons_succ]
        refine wpAnyH_take (i := 25) (oi := { dst := some 58, op := Op.fieldAddr 36 (Operand.tmp 57) 3, type := 0, pos := "ref.go:286", after := #[{ on := 24, ground := Ground.data }], guard := none }) (v := ?_) rfl (by kernel_rfl) (by kernel_rfl) (by kernel_rfl) (fun _ _ _ h => h) (Or.inl ⟨by rfl, ?_⟩) (by assumption) ?_
        rotate_left
        · intro w hSw; (try dsimp only at hSw); go_simp; try (with_reducible rfl)
        try simp only [Act.put, List.setIfInBounds_toArray, List.set_cons_zero, List.set_cons_succ]
        refine wpAnyH_take (i := 26) (oi := { dst := some 59, op := Op.load 3 (Operand.tmp 58), type := 3, pos := "ref.go:286", after := #[{ on := 25, ground := Ground.data }], guard := none }) (v := ?_) rfl (by kernel_rfl) (by kernel_rfl) (by kernel_rfl) (fun _ _ _ h => h) (Or.inl ⟨by rfl, ?_⟩) (by assumption) ?_
        rotate_left
        · intro w hSw; (try dsimp only at hSw); go_simp; try (with_reducible rfl)
        try simp only [Act.put, List.setIfInBounds_toArray, List.set_cons_zero, List.set_cons_succ]
        refine wpAnyH_ready (rs := [20]) (by kernel_rfl) (by simp) ?_
        refine AllReadyH.cons (o := { dst := some 53, op := Op.call { callee := Callee.value (Operand.func 66), args := #[Operand.tmp 50, Operand.tmp 51, Operand.tmp 52], argTypes := #[3, 3, 3] }, type := 3, pos := "ref.go:286", after := #[{ on := 17, ground := Ground.data }, { on := 18, ground := Ground.data }, { on := 19, ground := Ground.data }], guard := none }) rfl (fun K hK => ?_) AllReadyH.nil
        go_simp
        refine (HST.out _).mono ?_
        rintro e w5 ⟨rfl, hb⟩
        try go_wp2_with fail
        refine hK.out _ _ (rt_keep hcZ (by assumption) hb hZZ) (fun hHeld2 => ?_)
        clear hK K
        try simp only [Act.put, List.setIfInBounds_toArray, List.set_cons_zero, List.set_cons_succ]
        refine wpAnyH_take (i := 21) (oi := { dst := some 54, op := Op.call { callee := Callee.builtin Builtin.min, args := #[Operand.const (Value.int IntKind.i64 1000000), Operand.tmp 53], argTypes := #[3, 3] }, type := 3, pos := "ref.go:286", after := #[{ on := 20, ground := Ground.data }], guard := none }) (v := ?_) rfl (by kernel_rfl) (by kernel_rfl) (by kernel_rfl) (fun _ _ _ h => h) (Or.inl ⟨by rfl, ?_⟩) (by assumption) ?_
        rotate_left
        · intro w hSw; (try dsimp only at hSw); go_simp; try (with_reducible rfl)
        try simp only [Act.put, List.setIfInBounds_toArray, List.set_cons_zero, List.set_cons_succ]
        refine wpAnyH_ready (rs := [27]) (by kernel_rfl) (by simp) ?_
        refine AllReadyH.cons (o := { dst := some 60, op := Op.call { callee := Callee.value (Operand.func 62), args := #[Operand.tmp 40, Operand.tmp 45, Operand.tmp 54, Operand.tmp 59], argTypes := #[49, 3, 3, 3] }, type := 3, pos := "ref.go:286", after := #[{ on := 7, ground := Ground.data }, { on := 12, ground := Ground.data }, { on := 21, ground := Ground.data }, { on := 26, ground := Ground.data }, { on := 20, ground := Ground.chain }], guard := none }) rfl (fun K hK => ?_) AllReadyH.nil
        go_simp
        refine (HPY.out _).mono ?_
        rintro e w5 ⟨rfl, hb⟩
        try go_wp2_with fail
        refine hK.out _ _ (rt_keep hcZ (by assumption) hb hZZ) (fun hHeld3 => ?_)
        clear hK K
        try simp only [Act.put, List.setIfInBounds_toArray, List.set_cons_zero, List.set_cons_succ]
        refine wpAnyH_take (i := 28) (oi := { dst := some 15, op := Op.assign (Operand.tmp 60), type := 3, pos := "ref.go:286", after := #[{ on := 27, ground := Ground.data }, { on := 27, ground := Ground.chain }, { on := 0, ground := Ground.phase }, { on := 1, ground := Ground.phase }, { on := 2, ground := Ground.phase }, { on := 3, ground := Ground.phase }, { on := 4, ground := Ground.phase }, { on := 5, ground := Ground.phase }, { on := 6, ground := Ground.phase }, { on := 7, ground := Ground.phase }, { on := 8, ground := Ground.phase }, { on := 9, ground := Ground.phase }, { on := 10, ground := Ground.phase }, { on := 11, ground := Ground.phase }, { on := 12, ground := Ground.phase }, { on := 13, ground := Ground.phase }, { on := 14, ground := Ground.phase }, { on := 15, ground := Ground.phase }, { on := 16, ground := Ground.phase }, { on := 17, ground := Ground.phase }, { on := 18, ground := Ground.phase }, { on := 19, ground := Ground.phase }, { on := 20, ground := Ground.phase }, { on := 21, ground := Ground.phase }, { on := 22, ground := Ground.phase }, { on := 23, ground := Ground.phase }, { on := 24, ground := Ground.phase }, { on := 25, ground := Ground.phase }, { on := 26, ground := Ground.phase }, { on := 27, ground := Ground.phase }], guard := none }) (v := ?_) rfl (by kernel_rfl) (by kernel_rfl) (by kernel_rfl) (fun _ _ _ h => h) (Or.inl ⟨by rfl, ?_⟩) (by assumption) ?_
        rotate_left
        · intro w hSw; (try dsimp only at hSw); go_simp; try (with_reducible rfl)
        try simp only [Act.put, List.setIfInBounds_toArray, List.set_cons_zero, List.set_cons_succ]
        refine wpAnyH_done (by kernel_rfl) ?_ _
        have f5 := hHeld3.2.1.2.2.2.2.2
        have hb4 := hHeld3.1.1
        have HF := hid (HBR.out.trans (hb4.mono hBZ))
        have HROW4 : Hid (RowP w5 B (.slice (some ⟨gb, 0, none⟩) n c) n (mvP C P W u i)) := hid (row_stays HROW.out (hb4.mono (Nat.le_of_eq HZ.out)))
        clear hHeld hHeld2 hHeld3 hb4 HS1 HROW
        by_cases hgt : x.s < v
        · have hmv : mx = v := by have := HTR.out; omega
          have ws1 : IntKind.i64.wrap (v - x.s) = v - x.s := by have h1 := HPD.out; have h2 := HS12.out; rw [IntKind.wrap_i64]; omega
          have ws2 : IntKind.i64.wrap (s + (v - x.s)) = s + (v - x.s) := by have h1 := HPD.out; have h2 := HS12.out; have h3 := HGS.out; rw [IntKind.wrap_i64]; omega
          have HRP := hid (HROW4.out.putS i v)
          have HBP := hid (HF.out.setCell (p := ⟨gb, i * 6 + 5, none⟩) HGB.out (.int .i64 v))
          have c5 := f5
          have fz : ∀ j, w5.frozen? ⟨gb, j, none⟩ = false := fun j => HROW4.out.frozenAt j
          have HMV := hid hmv
          clear hmv
          go_upto_region 12 with fail
          clear c5 fz f5
          generalize w5.setCell _ _ = w6 at HRP HBP ⊢
          have HRQ : Hid (RowP w6 B (.slice (some ⟨gb, 0, none⟩) n c) n (mvP C P W u (i + 1))) := hid (RowP.congr HRP.out (fun j _ => by rw [← HMV.out]; exact HMS.out j))
          have HS2 : Hid (grS C P W u (i + 1) = s + (v - x.s)) := hid (by rw [← HMV.out]; exact HSTEP.out)
          by_cases hbig : 1000000000000 < s + (v - x.s)
          · have hq := HR.out
            have hg2 := HGM.out (n - (i + 1)) (by omega)
            rw [show i + 1 + (n - (i + 1)) = n by omega, HS2.out] at hg2
            rw [if_pos (by omega)] at hq
            cases hq
            go_wp2_with fail
            go_ret3
            exact HPOST.out none 0 _ (World.ownsRow_nil _ _ _ _) HBP.out
          · have HLE : Hid (s + (v - x.s) ≤ 1000000000000) := hid (by omega)
            go_wp2_with fail
            go_roundw
            case rel => exact ⟨i + 1, s + (v - x.s), by omega, by go_num, rfl, HLE.out, hid ⟨HS2.out.symm, HRQ.out, HBP.out⟩⟩
            case measure => simp [intOf]; omega
        · have hmv : mx = x.s := by have := HTR.out; omega
          have HRQ : Hid (RowP w5 B (.slice (some ⟨gb, 0, none⟩) n c) n (mvP C P W u (i + 1))) := hid (RowP.congr HROW4.out (fun j _ => HST0.out hmv j))
          have HS2 : Hid (grS C P W u (i + 1) = s) := hid (by rw [HSTEP.out, hmv]; omega)
          have hs9 := HSL.out
          have hs8 : ¬ 1000000000000 < s := by omega
          clear hmv
          go_wp2_with fail
          go_roundw
          case rel => exact ⟨i + 1, s, by omega, by go_num, rfl, HSL.out, hid ⟨HS2.out.symm, HRQ.out, HF.out⟩⟩
          case measure => simp [intOf]; omega
      · obtain rfl : n = i := by omega
        have HSE := hid HS.out.1
        have HRE : Hid (RowP wr B (.slice vo n c) n (trP C P W u)) := hid (RowP.congr HS.out.2.1 (fun j hj => mvP_end C P W u n j hj))
        have HBE := hid HS.out.2.2
        clear HS
        have hq := HR.out
        rw [if_neg (by rw [← HSE.out]; omega), ← HSE.out] at hq
        cases hq
        go_wp2_with fail
        go_ret3
        exact HPOST.out _ _ _ HRE.out HBE.out
  · have hb : (te == 0) = false := by simpa using h0
    rw [if_pos h0] at hr
    cases hr
    go_enter Try.func40, Try.ntmps40
    go_wp2_with fail
    refine HV.out.mono ?_
    rintro e w2 ⟨rfl, hb2⟩
    rw [HBW.out] at hb2
    go_wp2_with fail
    go_ret3
    exact HPOST.out none 0 _ (World.ownsRow_nil _ _ _ _) hb2
end Go.Proofs.Ytnfcibcpmaehoaa
