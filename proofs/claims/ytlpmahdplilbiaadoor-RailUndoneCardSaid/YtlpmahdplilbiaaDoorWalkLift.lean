/-
  The walks of Lift of the program.
-/
import Derived.Test.YtlpmahdplilbiaaDoorWalkLay
import Derived.Deep.RegionHeld3
namespace Go.Proofs.YtlpmahdplilbiaaDoor
open Go.RowKit

set_option maxHeartbeats 1600000 in
theorem lift_bad (W H : Int) (ao : Option Addr) (n cap : Nat) (Z : Nat → Int) (bo : Option Addr) (m bcap : Nat) (B : Nat → Bool) (hn : n ≤ 9223372036854775807) (hm : m ≤ 9223372036854775807) (t p : Int) (e : Int) (he : e ≠ 0) (h : LErr false 2 W H n m Z B t p e) (w : World) (hI : Ints w ao n Z) (hB : Bools w bo m B) :
    Calls Tryd.prog 29 #[rv W H (.slice ao n cap) (.slice bo m bcap), .int .i64 t, .int .i64 p] w fun r w' => r = .returned (.tuple #[rnil, .int .i64 e]) ∧ Below w.heap.size w w' := by
  have hst := bx2_start w 25 25 #[.int .i64 W, .int .i64 H, .slice ao n cap, .slice bo m bcap] #[.int .i64 0, .int .i64 0, .slice none 0 0, .slice none 0 0]
  have HI := hid (hI.stays hst.below)
  have HB := hid (hB.stays hst.below)
  have HST := hid hst
  obtain ⟨A, hA⟩ : ∃ A, A = w.heap.size := ⟨_, rfl⟩
  have HA := hid hA
  rcases h.place with h | ⟨rfl, h, ht, hh⟩
  · have HP := hid h
    have g1 : (e != 0) = true := by simpa using he
    have g2 : (e == 0) = false := by simpa using he
    clear hI hB hst h he
    go_enter Tryd.func29, Tryd.ntmps29
    go_wp2_with fail
    refine (place_to W H ao n cap Z bo m bcap B hn hm t p e HP.out _ HI.out HB.out).mono ?_
    rintro r w2 ⟨rfl, hb2⟩
    have H2 := hid (HST.out.stays hb2)
    have HI2 := hid (HI.out.stays hb2)
    have HB2 := hid (HB.out.stays hb2)
    simp only [← hA] at H2 ⊢
    clear hA hb2 HST HI HB
    clear HI2 HB2
    have hr := H2.out.hr
    have r0 := cell_of_row w2 (A + 1) 0 _ _ _ hr
    have r1 := cell_of_row w2 (A + 1) 1 _ _ _ hr
    have r2 := cell_of_row w2 (A + 1) 2 _ _ _ hr
    have r3 := cell_of_row w2 (A + 1) 3 _ _ _ hr
    simp only [List.getElem?_toArray, List.getElem?_cons_zero, List.getElem?_cons_succ] at r0 r1 r2 r3
    have f0 := frozen_of_row w2 (A + 1) 0 _ _ hr
    have f1 := frozen_of_row w2 (A + 1) 1 _ _ hr
    have f2 := frozen_of_row w2 (A + 1) 2 _ _ hr
    have f3 := frozen_of_row w2 (A + 1) 3 _ _ hr
    have hbz := heap_lt hr
    clear hr
    go_wp2_with fail
    have k3 := set4 H2.out.hr (.int .i64 0) (.int .i64 0) (.slice none 0 0) (.slice none 0 0)
    have k4 := set4_below (g := A + 1) H2.out.below (Nat.le_succ _) (.int .i64 0) (.int .i64 0) (.slice none 0 0) (.slice none 0 0)
    clear r0 r1 r2 r3 f0 f1 f2 f3
    generalize World.setCell _ _ _ = w5 at k3 k4 ⊢
    have q0 := cell_of_row w5 (A + 1) 0 _ _ _ k3
    have q1 := cell_of_row w5 (A + 1) 1 _ _ _ k3
    have q2 := cell_of_row w5 (A + 1) 2 _ _ _ k3
    have q3 := cell_of_row w5 (A + 1) 3 _ _ _ k3
    simp only [List.getElem?_toArray, List.getElem?_cons_zero, List.getElem?_cons_succ] at q0 q1 q2 q3
    refine bodyPost_ret (v := .tuple #[rnil, .int .i64 e]) (by simp [results, Tryd.results29, go_sem, q0, q1, q2, q3]) rfl ⟨rfl, ?_⟩
    rw [← HA.out]; exact k4
  · have HP := hid h
    have HZ := hid (h.fine ht)
    obtain ⟨hp1, hp2⟩ := h.piece
    obtain ⟨t, rfl⟩ := Int.eq_ofNat_of_zero_le ht.1
    have ht2 : t < n := by omega
    rw [Int.toNat_natCast] at hh
    have HH := hid hh
    clear hI hB hst h he ht hh
    go_enter Tryd.func29, Tryd.ntmps29
    go_wp2_with fail
    refine (place_to W H ao n cap Z bo m bcap B hn hm (t : Int) p 0 HP.out _ HI.out HB.out).mono ?_
    rintro r w2 ⟨rfl, hb2⟩
    have H2 := hid (HST.out.stays hb2)
    have HI2 := hid (HI.out.stays hb2)
    have HB2 := hid (HB.out.stays hb2)
    simp only [← hA] at H2 ⊢
    clear hA hb2 HST HI HB
    have b0 := cell_of_row w2 A 0 _ _ _ H2.out.hb
    have b1 := cell_of_row w2 A 1 _ _ _ H2.out.hb
    have b2 := cell_of_row w2 A 2 _ _ _ H2.out.hb
    have b3 := cell_of_row w2 A 3 _ _ _ H2.out.hb
    simp only [List.getElem?_toArray, List.getElem?_cons_zero, List.getElem?_cons_succ] at b0 b1 b2 b3
    go_wp2_with fail
    refine (lies_any W H ao n cap Z _ t p ⟨hp1, hp2⟩ ht2 (HZ.out t ht2).1 (HZ.out t ht2).2 false HH.out _ HI2.out).mono ?_
    rintro r w3 ⟨rfl, hb3⟩
    have H3 := hid (H2.out.stays hb3)
    clear hb3 b0 b1 b2 b3 H2 HI2 HB2
    have hr := H3.out.hr
    have r0 := cell_of_row w3 (A + 1) 0 _ _ _ hr
    have r1 := cell_of_row w3 (A + 1) 1 _ _ _ hr
    have r2 := cell_of_row w3 (A + 1) 2 _ _ _ hr
    have r3 := cell_of_row w3 (A + 1) 3 _ _ _ hr
    simp only [List.getElem?_toArray, List.getElem?_cons_zero, List.getElem?_cons_succ] at r0 r1 r2 r3
    have f0 := frozen_of_row w3 (A + 1) 0 _ _ hr
    have f1 := frozen_of_row w3 (A + 1) 1 _ _ hr
    have f2 := frozen_of_row w3 (A + 1) 2 _ _ hr
    have f3 := frozen_of_row w3 (A + 1) 3 _ _ hr
    have hbz := heap_lt hr
    clear hr
    go_wp2_with fail
    have k3 := set4 H3.out.hr (.int .i64 0) (.int .i64 0) (.slice none 0 0) (.slice none 0 0)
    have k4 := set4_below (g := A + 1) H3.out.below (Nat.le_succ _) (.int .i64 0) (.int .i64 0) (.slice none 0 0) (.slice none 0 0)
    clear r0 r1 r2 r3 f0 f1 f2 f3
    generalize World.setCell _ _ _ = w5 at k3 k4 ⊢
    have q0 := cell_of_row w5 (A + 1) 0 _ _ _ k3
    have q1 := cell_of_row w5 (A + 1) 1 _ _ _ k3
    have q2 := cell_of_row w5 (A + 1) 2 _ _ _ k3
    have q3 := cell_of_row w5 (A + 1) 3 _ _ _ k3
    simp only [List.getElem?_toArray, List.getElem?_cons_zero, List.getElem?_cons_succ] at q0 q1 q2 q3
    refine bodyPost_ret (v := .tuple #[rnil, .int .i64 2]) (by simp [results, Tryd.results29, go_sem, q0, q1, q2, q3]) rfl ⟨rfl, ?_⟩
    rw [← HA.out]; exact k4

set_option maxRecDepth 100000 in
set_option maxHeartbeats 3200000 in
theorem lift_ok (W H : Int) (ao : Option Addr) (n cap : Nat) (Z : Nat → Int) (bo : Option Addr) (bcap : Nat) (B : Nat → Bool) (t : Nat) (p : Int) (hR : Right W H n n Z B) (hp : 0 ≤ p ∧ p ≤ 5) (ht : t < n) (hh : has (Z t) p = true) (w : World) (hI : Ints w ao n Z) (hB : Bools w bo n B) :
    Calls Tryd.prog 29 #[rv W H (.slice ao n cap) (.slice bo n bcap), .int .i64 t, .int .i64 p] w (Made W H n (upd Z t (Z t - 2 ^ p.toNat)) (upd B t (B t && (Z t - 2 ^ p.toNat != 0))) w) := by
  have hbd := hR.sized.bound
  have hn1 : 0 < n := by have := hR.sets; omega
  have hn2 : n ≤ 1024 := by have := hR.sets; omega
  have hn : n ≤ 9223372036854775807 := by omega
  have hm := hn
  have hst := bx2_start w 25 25 #[.int .i64 W, .int .i64 H, .slice ao n cap, .slice bo n bcap] #[.int .i64 0, .int .i64 0, .slice none 0 0, .slice none 0 0]
  have HI := hid (hI.stays hst.below)
  have HB := hid (hB.stays hst.below)
  have HST := hid hst
  obtain ⟨A, hA⟩ : ∃ A, A = w.heap.size := ⟨_, rfl⟩
  have HA := hid hA
  have HP : Hid (PErr W H n n Z B t p 0) := hid (.inr (.inr (.inr ⟨rfl, hR, hp, by omega, by omega⟩)))
  have HZ := hid (fun i (hi : i < n) => And.intro (hR.fine i hi).1 (hR.fine i hi).2.1)
  have hz := hR.fine t ht
  obtain ⟨z, hzz⟩ : ∃ z, z = Z t := ⟨_, rfl⟩
  obtain ⟨x, hxx⟩ : ∃ x, x = B t := ⟨_, rfl⟩
  rw [← hzz] at hz hh ⊢
  rw [← hxx] at hz ⊢
  have HZZ := hid hzz
  have HXX := hid hxx
  have HH := hid hh
  obtain ⟨hz0, hz63, hzb⟩ := hz
  have hq : bits .andNot .i64 z (wrap64 (2 ^ p.toNat)) = z - 2 ^ p.toNat := clr_bit ⟨hz0, hz63⟩ hp hh
  have hqb := clr_bd ⟨hz0, hz63⟩ hp hh
  obtain ⟨hp1, hp2⟩ := hp
  clear hI hB hst hzz hxx hh hR hzb hbd
  go_enter Tryd.func29, Tryd.ntmps29
  go_wp2_with fail
  refine (place_to W H ao n cap Z bo n bcap B hn hm (t : Int) p 0 HP.out _ HI.out HB.out).mono ?_
  rintro r w2 ⟨rfl, hb2⟩
  have H2 := hid (HST.out.stays hb2)
  have HI2 := hid (HI.out.stays hb2)
  have HB2 := hid (HB.out.stays hb2)
  simp only [← hA] at H2 ⊢
  clear hA hb2 HST HI HB
  have b0 := cell_of_row w2 A 0 _ _ _ H2.out.hb
  have b1 := cell_of_row w2 A 1 _ _ _ H2.out.hb
  have b2 := cell_of_row w2 A 2 _ _ _ H2.out.hb
  have b3 := cell_of_row w2 A 3 _ _ _ H2.out.hb
  simp only [List.getElem?_toArray, List.getElem?_cons_zero, List.getElem?_cons_succ] at b0 b1 b2 b3
  go_wp2_with fail
  refine (lies_any W H ao n cap Z _ t p ⟨hp1, hp2⟩ ht (HZ.out t ht).1 (HZ.out t ht).2 true (by have := HH.out; rwa [HZZ.out] at this) _ HI2.out).mono ?_
  rintro r w3 ⟨rfl, hb3⟩
  have H3 := hid (H2.out.stays hb3)
  have HI3 := hid (HI2.out.stays hb3)
  have HB3 := hid (HB2.out.stays hb3)
  clear hb3 b0 b1 b2 b3 H2 HI2 HB2
  have b0 := cell_of_row w3 A 0 _ _ _ H3.out.hb
  have b1 := cell_of_row w3 A 1 _ _ _ H3.out.hb
  have b2 := cell_of_row w3 A 2 _ _ _ H3.out.hb
  have b3 := cell_of_row w3 A 3 _ _ _ H3.out.hb
  simp only [List.getElem?_toArray, List.getElem?_cons_zero, List.getElem?_cons_succ] at b0 b1 b2 b3
  go_wp2_with fail
  refine (clone_any W H ao n cap Z bo bcap B hn1 (by omega) _ HI3.out HB3.out).mono ?_
  rintro r w4 ⟨g, c, k, d, rfl, hg, hk, hgk, hb4⟩
  have H4 := hid (H3.out.stays hb4)
  have hgz := hg.lt g rfl
  have hkz := hk.lt k rfl
  have hA4 := heap_lt H3.out.hr
  have HG4 := hid (row_mono (base' := A) hg (by omega))
  have HK4 := hid (row_mono (base' := A) hk (by omega))
  clear hb4 hg hk b0 b1 b2 b3 H3 HI3 HB3
  have b0 := cell_of_row w4 A 0 _ _ _ H4.out.hb
  have b1 := cell_of_row w4 A 1 _ _ _ H4.out.hb
  have b2 := cell_of_row w4 A 2 _ _ _ H4.out.hb
  have b3 := cell_of_row w4 A 3 _ _ _ H4.out.hb
  simp only [List.getElem?_toArray, List.getElem?_cons_zero, List.getElem?_cons_succ] at b0 b1 b2 b3
  have e0 := frozen_of_row w4 A 0 _ _ H4.out.hb
  have e1 := frozen_of_row w4 A 1 _ _ H4.out.hb
  have e2 := frozen_of_row w4 A 2 _ _ H4.out.hb
  have e3 := frozen_of_row w4 A 3 _ _ H4.out.hb
  go_wp2_with fail
  have HL : Hid (LS A A g c k d n W H Z B w ((((w4.setCell ⟨A, 0, none⟩ (.int .i64 W)).setCell ⟨A, 1, none⟩ (.int .i64 H)).setCell ⟨A, 2, none⟩ (.slice (some ⟨g, 0, none⟩) n c)).setCell ⟨A, 3, none⟩ (.slice (some ⟨k, 0, none⟩) n d))) :=
    hid (ls_box H4.out HG4.out HK4.out (by omega) (by omega) hgk (.int .i64 0) (.int .i64 0))
  clear b0 b1 b2 b3 e0 e1 e2 e3 H4 HG4 HK4 hgz hkz
  generalize World.setCell _ _ _ = w5 at HL ⊢
  obtain ⟨c2, c3, cg, fg, sg⟩ := HL.out.g_at ht
  rw [← HZZ.out] at cg
  have hAz := heap_lt HL.out.hr
  have t1 : (0 : Int) ≤ (t : Int) := by omega
  have t2 : (t : Int) < (n : Int) := by omega
  obtain ⟨qb1, qb2, qb3, qb4⟩ := hqb
  have HQ := hid hq
  have HQ2 : Hid (wrap64 (2 ^ p.toNat) = 2 ^ p.toNat) := hid (by unfold wrap64; omega)
  clear hq
  go_still_tail 9, (by kernel_rfl)
  change wpList _ _ _ _ _ w5.drew
  have HL1 := hid HL.out.drew
  clear c2 c3 cg fg sg HL
  generalize w5.drew = w6 at HL1 ⊢
  obtain ⟨c2, c3, cg, fg, sg⟩ := HL1.out.g_at ht
  go_wp2_with fail
  rw [show bits .andNot .i64 z (2 ^ p.toNat) = z - 2 ^ p.toNat by have h := HQ.out; rwa [HQ2.out] at h]
  obtain ⟨y, hy⟩ : ∃ y, y = z - 2 ^ p.toNat := ⟨_, rfl⟩
  rw [← hy]
  rw [← hy] at qb3 qb4
  have HY := hid hy
  clear hy qb1 qb2
  have HL2 := hid (HL1.out.setG t y)
  clear c2 c3 cg fg sg HL1
  generalize w6.setCell _ _ = w7 at HL2 ⊢
  obtain ⟨c2, c3, ck, fk, sk⟩ := HL2.out.k_at ht
  rw [← HXX.out] at ck
  obtain ⟨_, _, cg, _, sg⟩ := HL2.out.g_at ht
  rw [show upd Z t y t = y by unfold upd; rw [if_pos rfl]] at cg
  generalize IntKind.i64.wrap (2 ^ p.toNat) = v1
  generalize bits _ _ z v1 = v2
  cases x
  · clear c2 c3 ck fk sk cg sg
    have hbt := HXX.out.symm
    have HBT := hid hbt
    clear hbt
    refine wp_region_held_drew (S := (fun w' => LS A A g c k d n W H (upd Z t y) B w w' ∧ w'.cell? ⟨A, 2, none⟩ = some (.slice (some ⟨g, 0, none⟩) n c) ∧ w'.cell? ⟨A, 3, none⟩ = some (.slice (some ⟨k, 0, none⟩) n d) ∧ w'.cell? ⟨k, t, none⟩ = some (.bool false))) (by kernel_rfl) (ls_keep HL2.out.drew ht HBT.out) (fun hHeld => ?_)
    refine wpAnyH_take (i := 0) (oi := { dst := some 34, op := Op.fieldAddr 25 (Operand.tmp 3) 3, type := 0, pos := "rail.go:105", after := #[], guard := none }) (v := ?_) rfl (by kernel_rfl) (by kernel_rfl) (by kernel_rfl) (fun _ _ _ h => h) (Or.inl ⟨by rfl, ?_⟩) (by assumption) ?_
    rotate_left
    · intro w hSw; (try dsimp only at hSw); go_simp; try (with_reducible rfl)
    try simp only [Act.put, List.setIfInBounds_toArray, List.set_cons_zero, List.set_cons_succ]
    refine wpAnyH_take (i := 1) (oi := { dst := some 35, op := Op.load 23 (Operand.tmp 34), type := 23, pos := "rail.go:105", after := #[{ on := 0, ground := Ground.data }], guard := none }) (v := ?_) rfl (by kernel_rfl) (by kernel_rfl) (by kernel_rfl) (fun _ _ _ h => h) (Or.inl ⟨by rfl, ?_⟩) (by assumption) ?_
    rotate_left
    · intro w hSw; (try dsimp only at hSw); go_simp; try (with_reducible rfl)
    try simp only [Act.put, List.setIfInBounds_toArray, List.set_cons_zero, List.set_cons_succ]
    refine wpAnyH_take (i := 2) (oi := { dst := some 36, op := Op.move (Operand.tmp 1), type := 3, pos := "rail.go:105", after := #[], guard := none }) (v := ?_) rfl (by kernel_rfl) (by kernel_rfl) (by kernel_rfl) (fun _ _ _ h => h) (Or.inl ⟨by rfl, ?_⟩) (by assumption) ?_
    rotate_left
    · intro w hSw; (try dsimp only at hSw); go_simp; try (with_reducible rfl)
    try simp only [Act.put, List.setIfInBounds_toArray, List.set_cons_zero, List.set_cons_succ]
    refine wpAnyH_take (i := 3) (oi := { dst := some 37, op := Op.fieldAddr 25 (Operand.tmp 3) 3, type := 0, pos := "rail.go:105", after := #[], guard := none }) (v := ?_) rfl (by kernel_rfl) (by kernel_rfl) (by kernel_rfl) (fun _ _ _ h => h) (Or.inl ⟨by rfl, ?_⟩) (by assumption) ?_
    rotate_left
    · intro w hSw; (try dsimp only at hSw); go_simp; try (with_reducible rfl)
    try simp only [Act.put, List.setIfInBounds_toArray, List.set_cons_zero, List.set_cons_succ]
    refine wpAnyH_take (i := 4) (oi := { dst := some 38, op := Op.load 23 (Operand.tmp 37), type := 23, pos := "rail.go:105", after := #[{ on := 3, ground := Ground.data }], guard := none }) (v := ?_) rfl (by kernel_rfl) (by kernel_rfl) (by kernel_rfl) (fun _ _ _ h => h) (Or.inl ⟨by rfl, ?_⟩) (by assumption) ?_
    rotate_left
    · intro w hSw; (try dsimp only at hSw); go_simp; try (with_reducible rfl)
    try simp only [Act.put, List.setIfInBounds_toArray, List.set_cons_zero, List.set_cons_succ]
    refine wpAnyH_take (i := 5) (oi := { dst := some 39, op := Op.move (Operand.tmp 1), type := 3, pos := "rail.go:105", after := #[], guard := none }) (v := ?_) rfl (by kernel_rfl) (by kernel_rfl) (by kernel_rfl) (fun _ _ _ h => h) (Or.inl ⟨by rfl, ?_⟩) (by assumption) ?_
    rotate_left
    · intro w hSw; (try dsimp only at hSw); go_simp; try (with_reducible rfl)
    try simp only [Act.put, List.setIfInBounds_toArray, List.set_cons_zero, List.set_cons_succ]
    refine wpAnyH_take (i := 6) (oi := { dst := some 40, op := Op.indexAddr 23 (Operand.tmp 38) (Operand.tmp 39), type := 0, pos := "rail.go:105", after := #[{ on := 4, ground := Ground.data }, { on := 5, ground := Ground.data }], guard := none }) (v := ?_) rfl (by kernel_rfl) (by kernel_rfl) (by kernel_rfl) (fun _ _ _ h => h) (Or.inl ⟨by rfl, ?_⟩) (by assumption) ?_
    rotate_left
    · intro w hSw; (try dsimp only at hSw); go_simp; try (with_reducible rfl)
    try simp only [Act.put, List.setIfInBounds_toArray, List.set_cons_zero, List.set_cons_succ]
    refine wpAnyH_take (i := 7) (oi := { dst := some 41, op := Op.load 4 (Operand.tmp 40), type := 4, pos := "rail.go:105", after := #[{ on := 6, ground := Ground.data }], guard := none }) (v := ?_) rfl (by kernel_rfl) (by kernel_rfl) (by kernel_rfl) (fun _ _ _ h => h) (Or.inl ⟨by rfl, ?_⟩) (by assumption) ?_
    rotate_left
    · intro w hSw; (try dsimp only at hSw); go_simp; try (with_reducible rfl)
    try simp only [Act.put, List.setIfInBounds_toArray, List.set_cons_zero, List.set_cons_succ]
    refine wpAnyH_take (i := 8) (oi := { dst := some 42, op := Op.move (Operand.tmp 41), type := 4, pos := "rail.go:105", after := #[{ on := 7, ground := Ground.data }], guard := none }) (v := ?_) rfl (by kernel_rfl) (by kernel_rfl) (by kernel_rfl) (fun _ _ _ h => h) (Or.inl ⟨by rfl, ?_⟩) (by assumption) ?_
    rotate_left
    · intro w hSw; (try dsimp only at hSw); go_simp; try (with_reducible rfl)
    try simp only [Act.put, List.setIfInBounds_toArray, List.set_cons_zero, List.set_cons_succ]
    refine wpAnyH_take (i := 9) (oi := { dst := some 43, op := Op.fieldAddr 25 (Operand.tmp 3) 2, type := 0, pos := "rail.go:105", after := #[{ on := 8, ground := Ground.guard }], guard := some (8, true) }) (v := undef) rfl (by kernel_rfl) (by kernel_rfl) (by kernel_rfl) (fun _ _ _ h => h) (Or.inr ⟨by rfl, rfl⟩) (by assumption) ?_
    try simp only [Act.put, List.setIfInBounds_toArray, List.set_cons_zero, List.set_cons_succ]
    refine wpAnyH_take (i := 10) (oi := { dst := some 44, op := Op.load 22 (Operand.tmp 43), type := 22, pos := "rail.go:105", after := #[{ on := 9, ground := Ground.data }, { on := 8, ground := Ground.guard }], guard := some (8, true) }) (v := undef) rfl (by kernel_rfl) (by kernel_rfl) (by kernel_rfl) (fun _ _ _ h => h) (Or.inr ⟨by rfl, rfl⟩) (by assumption) ?_
    try simp only [Act.put, List.setIfInBounds_toArray, List.set_cons_zero, List.set_cons_succ]
    refine wpAnyH_take (i := 11) (oi := { dst := some 45, op := Op.move (Operand.tmp 1), type := 3, pos := "rail.go:105", after := #[{ on := 8, ground := Ground.guard }], guard := some (8, true) }) (v := undef) rfl (by kernel_rfl) (by kernel_rfl) (by kernel_rfl) (fun _ _ _ h => h) (Or.inr ⟨by rfl, rfl⟩) (by assumption) ?_
    try simp only [Act.put, List.setIfInBounds_toArray, List.set_cons_zero, List.set_cons_succ]
    refine wpAnyH_take (i := 12) (oi := { dst := some 46, op := Op.indexAddr 22 (Operand.tmp 44) (Operand.tmp 45), type := 0, pos := "rail.go:105", after := #[{ on := 10, ground := Ground.data }, { on := 11, ground := Ground.data }, { on := 8, ground := Ground.guard }], guard := some (8, true) }) (v := undef) rfl (by kernel_rfl) (by kernel_rfl) (by kernel_rfl) (fun _ _ _ h => h) (Or.inr ⟨by rfl, rfl⟩) (by assumption) ?_
    try simp only [Act.put, List.setIfInBounds_toArray, List.set_cons_zero, List.set_cons_succ]
    refine wpAnyH_take (i := 13) (oi := { dst := some 47, op := Op.load 3 (Operand.tmp 46), type := 3, pos := "rail.go:105", after := #[{ on := 12, ground := Ground.data }, { on := 8, ground := Ground.guard }], guard := some (8, true) }) (v := undef) rfl (by kernel_rfl) (by kernel_rfl) (by kernel_rfl) (fun _ _ _ h => h) (Or.inr ⟨by rfl, rfl⟩) (by assumption) ?_
    try simp only [Act.put, List.setIfInBounds_toArray, List.set_cons_zero, List.set_cons_succ]
    refine wpAnyH_take (i := 14) (oi := { dst := some 48, op := Op.binOp BinOp.neq 3 (Operand.tmp 47) (Operand.const (Value.int IntKind.i64 0)) 3, type := 4, pos := "rail.go:105", after := #[{ on := 13, ground := Ground.data }, { on := 8, ground := Ground.guard }], guard := some (8, true) }) (v := undef) rfl (by kernel_rfl) (by kernel_rfl) (by kernel_rfl) (fun _ _ _ h => h) (Or.inr ⟨by rfl, rfl⟩) (by assumption) ?_
    try simp only [Act.put, List.setIfInBounds_toArray, List.set_cons_zero, List.set_cons_succ]
    refine wpAnyH_take (i := 15) (oi := { dst := some 49, op := Op.pick (Operand.tmp 42) (Operand.tmp 48) (Operand.const (Value.bool false)), type := 4, pos := "rail.go:105", after := #[{ on := 8, ground := Ground.data }, { on := 14, ground := Ground.data }], guard := none }) (v := ?_) rfl (by kernel_rfl) (by kernel_rfl) (by kernel_rfl) (fun _ _ _ h => h) (Or.inl ⟨by rfl, ?_⟩) (by assumption) ?_
    rotate_left
    · intro w hSw; (try dsimp only at hSw); go_simp; try (with_reducible rfl)
    try simp only [Act.put, List.setIfInBounds_toArray, List.set_cons_zero, List.set_cons_succ]
    refine wpAnyH_take (i := 16) (oi := { dst := some 50, op := Op.indexAddr 23 (Operand.tmp 35) (Operand.tmp 36), type := 0, pos := "rail.go:105", after := #[{ on := 1, ground := Ground.data }, { on := 2, ground := Ground.data }, { on := 0, ground := Ground.phase }, { on := 1, ground := Ground.phase }, { on := 2, ground := Ground.phase }, { on := 3, ground := Ground.phase }, { on := 4, ground := Ground.phase }, { on := 5, ground := Ground.phase }, { on := 6, ground := Ground.phase }, { on := 7, ground := Ground.phase }, { on := 8, ground := Ground.phase }, { on := 9, ground := Ground.phase }, { on := 10, ground := Ground.phase }, { on := 11, ground := Ground.phase }, { on := 12, ground := Ground.phase }, { on := 13, ground := Ground.phase }, { on := 14, ground := Ground.phase }, { on := 15, ground := Ground.phase }], guard := none }) (v := ?_) rfl (by kernel_rfl) (by kernel_rfl) (by kernel_rfl) (fun _ _ _ h => h) (Or.inl ⟨by rfl, ?_⟩) (by assumption) ?_
    rotate_left
    · intro w hSw; (try dsimp only at hSw); go_simp; try (with_reducible rfl)
    try simp only [Act.put, List.setIfInBounds_toArray, List.set_cons_zero, List.set_cons_succ]
    refine wpAnyH_ready (rs := [17]) (by kernel_rfl) (by simp) ?_
    refine AllReadyH.cons (o := { dst := none, op := Op.store 4 (Operand.tmp 50) (Operand.tmp 49), type := 0, pos := "rail.go:105", after := #[{ on := 16, ground := Ground.data }, { on := 15, ground := Ground.data }, { on := 8, ground := Ground.chain }, { on := 0, ground := Ground.phase }, { on := 1, ground := Ground.phase }, { on := 2, ground := Ground.phase }, { on := 3, ground := Ground.phase }, { on := 4, ground := Ground.phase }, { on := 5, ground := Ground.phase }, { on := 6, ground := Ground.phase }, { on := 7, ground := Ground.phase }, { on := 8, ground := Ground.phase }, { on := 9, ground := Ground.phase }, { on := 10, ground := Ground.phase }, { on := 11, ground := Ground.phase }, { on := 12, ground := Ground.phase }, { on := 13, ground := Ground.phase }, { on := 14, ground := Ground.phase }, { on := 15, ground := Ground.phase }], guard := none }) rfl (fun K hK => ?_) AllReadyH.nil
    have hLS := ls_of (by assumption)
    obtain ⟨_, _, ck, fk, sk⟩ := hLS.k_at ht
    go_simp
    refine hK.out _ _ (ls_keep (ls_put hLS HBT.out) ht HBT.out) (fun hHeld2 => ?_)
    clear hK K
    try simp only [Act.put, List.setIfInBounds_toArray, List.set_cons_zero, List.set_cons_succ]
    refine wpAnyH_done (by kernel_rfl) ?_ _
    clear ck fk sk
    have HL4 := hid (HL2.out.setK t false).drew
    clear hLS HL2
    generalize World.drew _ = w9 at HL4 ⊢
    have b0 := cell_of_row w9 A 0 _ _ _ HL4.out.ho
    have b1 := cell_of_row w9 A 1 _ _ _ HL4.out.ho
    have b2 := cell_of_row w9 A 2 _ _ _ HL4.out.ho
    have b3 := cell_of_row w9 A 3 _ _ _ HL4.out.ho
    simp only [List.getElem?_toArray, List.getElem?_cons_zero, List.getElem?_cons_succ] at b0 b1 b2 b3
    have hr := HL4.out.hr
    have n1 := HL4.out.nk.1
    have n2 := HL4.out.nk.2
    have n3 := n1.symm
    have n4 := n2.symm
    have r0 := cell_of_row w9 (A + 1) 0 _ _ _ hr
    have r1 := cell_of_row w9 (A + 1) 1 _ _ _ hr
    have r2 := cell_of_row w9 (A + 1) 2 _ _ _ hr
    have r3 := cell_of_row w9 (A + 1) 3 _ _ _ hr
    simp only [List.getElem?_toArray, List.getElem?_cons_zero, List.getElem?_cons_succ] at r0 r1 r2 r3
    have f0 := frozen_of_row w9 (A + 1) 0 _ _ hr
    have f1 := frozen_of_row w9 (A + 1) 1 _ _ hr
    have f2 := frozen_of_row w9 (A + 1) 2 _ _ hr
    have f3 := frozen_of_row w9 (A + 1) 3 _ _ hr
    have hbz := heap_lt hr
    have hoz := heap_lt HL4.out.ho
    clear hr
    go_wp2_with fail
    have k3 := set4 HL4.out.hr (.int .i64 W) (.int .i64 H) (.slice (some ⟨g, 0, none⟩) n c) (.slice (some ⟨k, 0, none⟩) n d)
    have k4 := set4_below (g := A + 1) HL4.out.below (Nat.le_succ _) (.int .i64 W) (.int .i64 H) (.slice (some ⟨g, 0, none⟩) n c) (.slice (some ⟨k, 0, none⟩) n d)
    have k5 := set4_row (g := A + 1) HL4.out.rg (by simpa [Value.ownBlock] using HL4.out.ng.2) (.int .i64 W) (.int .i64 H) (.slice (some ⟨g, 0, none⟩) n c) (.slice (some ⟨k, 0, none⟩) n d)
    have k6 := set4_row (g := A + 1) HL4.out.rk (by simpa [Value.ownBlock] using HL4.out.nk.2) (.int .i64 W) (.int .i64 H) (.slice (some ⟨g, 0, none⟩) n c) (.slice (some ⟨k, 0, none⟩) n d)
    clear r0 r1 r2 r3 f0 f1 f2 f3 b0 b1 b2 b3 n1 n2 n3 n4
    generalize World.setCell _ _ _ = w10 at k3 k4 k5 k6 ⊢
    have q0 := cell_of_row w10 (A + 1) 0 _ _ _ k3
    have q1 := cell_of_row w10 (A + 1) 1 _ _ _ k3
    have q2 := cell_of_row w10 (A + 1) 2 _ _ _ k3
    have q3 := cell_of_row w10 (A + 1) 3 _ _ _ k3
    simp only [List.getElem?_toArray, List.getElem?_cons_zero, List.getElem?_cons_succ] at q0 q1 q2 q3
    refine bodyPost_ret (v := .tuple #[rv W H (.slice (some ⟨g, 0, none⟩) n c) (.slice (some ⟨k, 0, none⟩) n d), .int .i64 0]) (by simp [results, Tryd.results29, go_sem, q0, q1, q2, q3]) rfl ⟨g, c, k, d, rfl, by rw [← HA.out]; first | exact k5 | (rw [← HY.out]; exact k5), by rw [← HA.out]; first | exact k6 | (rw [← HY.out]; exact k6), by rw [← HA.out]; exact k4⟩
  · go_still_tail 17, (by kernel_rfl)
    change wpList _ _ _ _ _ w7.drew
    have HL3 := hid HL2.out.drew
    clear c2 c3 ck fk sk HL2 cg sg
    generalize w7.drew = w8 at HL3 ⊢
    obtain ⟨c2, c3, ck, fk, sk⟩ := HL3.out.k_at ht
    have HL4 := hid (HL3.out.setK t (y != 0))
    have b0 := cell_of_row w8 A 0 _ _ _ HL3.out.ho
    have b1 := cell_of_row w8 A 1 _ _ _ HL3.out.ho
    have b2 := cell_of_row w8 A 2 _ _ _ HL3.out.ho
    have b3 := cell_of_row w8 A 3 _ _ _ HL3.out.ho
    simp only [List.getElem?_toArray, List.getElem?_cons_zero, List.getElem?_cons_succ] at b0 b1 b2 b3
    have hr := HL3.out.hr
    have n1 := HL3.out.nk.1
    have n2 := HL3.out.nk.2
    have n3 := n1.symm
    have n4 := n2.symm
    have r0 := cell_of_row w8 (A + 1) 0 _ _ _ hr
    have r1 := cell_of_row w8 (A + 1) 1 _ _ _ hr
    have r2 := cell_of_row w8 (A + 1) 2 _ _ _ hr
    have r3 := cell_of_row w8 (A + 1) 3 _ _ _ hr
    simp only [List.getElem?_toArray, List.getElem?_cons_zero, List.getElem?_cons_succ] at r0 r1 r2 r3
    have f0 := frozen_of_row w8 (A + 1) 0 _ _ hr
    have f1 := frozen_of_row w8 (A + 1) 1 _ _ hr
    have f2 := frozen_of_row w8 (A + 1) 2 _ _ hr
    have f3 := frozen_of_row w8 (A + 1) 3 _ _ hr
    have hbz := heap_lt hr
    have hoz := heap_lt HL3.out.ho
    clear hr
    go_wp2_with fail
    have k3 := set4 HL4.out.hr (.int .i64 W) (.int .i64 H) (.slice (some ⟨g, 0, none⟩) n c) (.slice (some ⟨k, 0, none⟩) n d)
    have k4 := set4_below (g := A + 1) HL4.out.below (Nat.le_succ _) (.int .i64 W) (.int .i64 H) (.slice (some ⟨g, 0, none⟩) n c) (.slice (some ⟨k, 0, none⟩) n d)
    have k5 := set4_row (g := A + 1) HL4.out.rg (by simpa [Value.ownBlock] using HL4.out.ng.2) (.int .i64 W) (.int .i64 H) (.slice (some ⟨g, 0, none⟩) n c) (.slice (some ⟨k, 0, none⟩) n d)
    have k6 := set4_row (g := A + 1) HL4.out.rk (by simpa [Value.ownBlock] using HL4.out.nk.2) (.int .i64 W) (.int .i64 H) (.slice (some ⟨g, 0, none⟩) n c) (.slice (some ⟨k, 0, none⟩) n d)
    clear r0 r1 r2 r3 f0 f1 f2 f3 b0 b1 b2 b3 c2 c3 ck fk sk n1 n2 n3 n4
    generalize World.setCell _ _ _ = w10 at k3 k4 k5 k6 ⊢
    have q0 := cell_of_row w10 (A + 1) 0 _ _ _ k3
    have q1 := cell_of_row w10 (A + 1) 1 _ _ _ k3
    have q2 := cell_of_row w10 (A + 1) 2 _ _ _ k3
    have q3 := cell_of_row w10 (A + 1) 3 _ _ _ k3
    simp only [List.getElem?_toArray, List.getElem?_cons_zero, List.getElem?_cons_succ] at q0 q1 q2 q3
    refine bodyPost_ret (v := .tuple #[rv W H (.slice (some ⟨g, 0, none⟩) n c) (.slice (some ⟨k, 0, none⟩) n d), .int .i64 0]) (by simp [results, Tryd.results29, go_sem, q0, q1, q2, q3]) rfl ⟨g, c, k, d, rfl, by rw [← HA.out]; first | exact k5 | (rw [← HY.out]; exact k5), by rw [← HA.out]; first | exact k6 | (rw [← HY.out]; exact k6), by rw [← HA.out]; exact k4⟩
end Go.Proofs.YtlpmahdplilbiaaDoor
