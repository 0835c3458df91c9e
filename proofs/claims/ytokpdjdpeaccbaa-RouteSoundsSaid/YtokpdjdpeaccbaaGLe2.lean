/-
  The walk of Least.
-/
import Derived.Test.YtokpdjdpeaccbaaGLe1
namespace Go.Proofs.Ytokpdjdpeaccbaa
open Go.RowKit

theorem results_tmp4 {fn : Func} {t u v x : Tmp} (h : fn.results = #[.tmp t, .tmp u, .tmp v, .tmp x]) (tmps : Array Value) (P : Program) (w : World) :
    (results fn tmps).run P w = .ok (.tuple #[tmps.getD t undef, tmps.getD u undef, tmps.getD v undef, tmps.getD x undef]) w := by
  simp [results, h]
theorem row_ints {w : World} {B k c : Nat} {vo : Option Addr} {Z : Nat → Int} (h : RowI w B (.slice vo k c) k Z) : Ints w vo k Z := fun j hj => by
  obtain ⟨g, cap, e, _, hl⟩ := h.form (by omega)
  cases e
  exact ⟨g, 0, rfl, hl, by rw [Nat.zero_add]; exact (h.cellAt j (by omega)).trans (vals_get _ hj)⟩
set_option maxRecDepth 100000 in
set_option maxHeartbeats 12800000 in
theorem least_ok (n ec pc qc p q : Nat) (G : Gr) (E : Nat → Ed) (eo fo to_ : Option Addr) (X Y : Nat → Nat) (hn : n ≤ 2000) (hgm : G.m ≤ 10000) (hp : p ≤ 100000) (hq : q ≤ 100000)
    (hE : ∀ i, i < G.m → E i = ⟨G.t i, G.f i, G.c i⟩) (hb : ∀ i, i < G.m → G.c i ≤ 1000000000 ∧ G.t i < n ∧ G.f i < n) (hX : ∀ j, j < q → X j < n) (hY : ∀ j, j < p → Y j < n)
    (hNE : NErr n G.m E (p + q) (fun j => if j < p then (Y j : Int) else (X (j - p) : Int)) = 0)
    (w : World) (hEd : Eds w eo G.m E) (hIY : Ints w fo p (fun j => (Y j : Int))) (hIX : Ints w to_ q (fun j => (X j : Int))) :
    Calls Try.prog 20 #[.int .i64 (n : Int), .slice eo G.m ec, .slice fo p pc, .slice to_ q qc] w (LeastP p q G X Y w) := by
  obtain ⟨B, hB⟩ : ∃ B, w.heap.size = B := ⟨_, rfl⟩
  have HBW := hid hB
  have HE := hid hE
  have HB := hid hb
  have HX := hid hX
  have HY := hid hY
  have HNE := hid hNE
  have HEd : Hid (∀ wr, Below B w wr → Eds wr eo G.m E) := hid (fun wr hb => hEd.stays (by rw [hB]; exact hb))
  have HIY : Hid (∀ wr, Below B w wr → Ints wr fo p (fun j => (Y j : Int))) := hid (fun wr hb => hIY.stays (by rw [hB]; exact hb))
  have HIX : Hid (∀ wr, Below B w wr → Ints wr to_ q (fun j => (X j : Int))) := hid (fun wr hb => hIX.stays (by rw [hB]; exact hb))
  clear hE hb hX hY hNE hEd hIY hIX
  have h0 : Below B w (w.alloc (.cells #[.slice fo p pc, .slice to_ q qc] 28)) := (Below.refl _ _).alloc (by rw [hB]; exact Nat.le_refl _) _
  have H0 := hid h0
  have HN := hid (heap_new w (.cells #[.slice fo p pc, .slice to_ q qc] 28))
  clear hB h0
  go_enter Try.func20, Try.ntmps20
  go_wp2_with fail
  refine (concat_any w.heap.size p pc q qc fo to_ _ _ hp hq _ HN.out (HIY.out _ H0.out) (HIX.out _ H0.out)).mono ?_
  rintro e w2 ⟨v, rfl, hrow, hbel⟩
  obtain ⟨vo, vc, rfl⟩ := row_slice hrow
  have HI2 := hid (row_ints hrow)
  have hz := H0.out.size
  have H2 := hid (H0.out.trans (hbel.mono (by rw [World.size_alloc, HBW.out]; omega)))
  clear hrow hbel HN H0 hz
  go_wp2_with fail
  refine (nodes_any n eo G.m ec E (by omega) vo (p + q) vc _ (by omega) w2 (HEd.out _ H2.out) HI2.out).mono ?_
  rw [HNE.out]
  rintro e w3 ⟨rfl, hb3⟩
  have H3 := hid (H2.out.trans (hb3.mono (by rw [← HBW.out]; exact H2.out.size)))
  clear hb3 H2 HI2 HNE
  go_wp2_with fail
  refine (flip_any eo G.m ec E (by omega) w3 (HEd.out _ H3.out)).mono ?_
  rintro e w4 ⟨fo4, fc4, rfl, hr4, hb4⟩
  have HE4 := hid hr4.eds
  have H4 := hid (H3.out.trans (hb4.mono (by rw [← HBW.out]; exact H3.out.size)))
  clear hr4 hb4 H3
  go_wp2_with fail
  refine (spread_any n fc4 G fo4 _ hn (by omega) (fun i hi => by rw [HE.out i hi]; rfl) (fun i hi => (HB.out i hi).2.2) w4 HE4.out).mono ?_
  rintro e w5 ⟨F, rfl, hF5, hb5⟩
  have HF5 := hid hF5
  have H5 := hid (H4.out.trans (hb5.mono (by rw [← HBW.out]; exact H4.out.size)))
  clear hF5 hb5 H4 HE4
  go_wp2_with fail
  refine (ways_any n q F n qc G X to_ hn (fun i hi => ⟨(HB.out i hi).1, (HB.out i hi).2.1⟩) hgm HX.out hq w5 HF5.out (HIX.out _ H5.out)).mono ?_
  rintro e w6 ⟨M, xs, rfl, hrun, hfin, hr6, hb6⟩
  have HRUN := hid hrun
  have HFIN := hid hfin
  have hBM : B ≤ M := by
    have h1 := (hr6.lt M rfl).1
    have h2 := H5.out.size
    rw [HBW.out] at h2
    omega
  have HR6 := hid hr6
  have H6 := hid (H5.out.trans (hb6.mono (by rw [← HBW.out]; exact H5.out.size)))
  obtain ⟨Bx, hBx⟩ : ∃ Bx, w5.heap.size = Bx := ⟨_, rfl⟩
  rw [hBx] at HR6
  clear hrun hfin hr6 hb6 H5 HF5 hBx
  have hba : Below w6.heap.size w6 (w6.alloc (.cells #[.int .i64 0, .int .i64 0, .int .i64 0, .int .i64 0] 68)) := (Below.refl _ _).alloc (Nat.le_refl _) _
  have hB6 : B ≤ w6.heap.size := by rw [← HBW.out]; exact H6.out.size
  have HM6 : M < w6.heap.size := (HR6.out.lt M rfl).2
  have HS0 : Hid ((w6.alloc (.cells #[.int .i64 0, .int .i64 0, .int .i64 0, .int .i64 0] 68)).heap[w6.heap.size]? = some (.cells #[.int .i64 0, .int .i64 0, .int .i64 0, .int .i64 0] 68 (0, 0)) ∧ RowW (w6.alloc (.cells #[.int .i64 0, .int .i64 0, .int .i64 0, .int .i64 0] 68)) Bx (.slice (some ⟨M, 0, none⟩) n n) n (tbl xs) ∧ Below B w (w6.alloc (.cells #[.int .i64 0, .int .i64 0, .int .i64 0, .int .i64 0] 68))) :=
    hid ⟨heap_new _ _, row_stays HR6.out hba, H6.out.trans (hba.mono hB6)⟩
  clear hba HR6 H6
  obtain ⟨X0, hX0⟩ : ∃ X0, w6.heap.size = X0 := ⟨_, rfl⟩
  rw [hX0] at HS0 hB6 HM6
  go_wp2_with fail
  clear hX0
  go_loopw [36] (fun iv wr => ∃ (i : Nat), i ≤ p ∧ iv = .int .i64 i ∧ Hid (wr.heap[X0]? = some (.cells (wc (bestOf (tbl xs) i Y)).toArray 68 (0, 0)) ∧ RowW wr Bx (.slice (some ⟨M, 0, none⟩) n n) n (tbl xs) ∧ Below B w wr)) (fun iv _ => p - (intOf iv).toNat)
  case atStart => exact ⟨0, Nat.zero_le _, rfl, HS0⟩
  case round =>
    clear HS0
    obtain ⟨i, hi, rfl, HS⟩ := hrel
    by_cases hlt : i < p
    · obtain ⟨bb, off, e, hbl, c0⟩ := HIY.out wr HS.out.2.2 i hlt
      subst e
      have hun := HY.out i hlt
      obtain ⟨b, hb⟩ : ∃ b, bestOf (tbl xs) i Y = b := ⟨_, rfl⟩
      have HBB := hid hb
      rw [hb] at HS
      obtain ⟨u, hu⟩ : ∃ u, Y i = u := ⟨_, rfl⟩
      have HU := hid hu
      simp only at c0
      rw [hu] at hun c0
      obtain ⟨_, r1, r2, _⟩ := RowW.cell HS.out.2.1 hun
      obtain ⟨co, hco⟩ : ∃ co, (tbl xs u).co = co := ⟨_, rfl⟩
      obtain ⟨s, hs⟩ : ∃ s, (tbl xs u).ns = s := ⟨_, rfl⟩
      rw [hco] at r1
      rw [hs] at r2
      have HCW : Hid (cw (tbl xs) u = ⟨0, co, s, u⟩) := hid (by simp only [cw, hco, hs])
      have HSS := hid hs
      clear hb hu hco hs
      have hba : Below wr.heap.size wr (wr.alloc (.cells #[.int .i64 0, .int .i64 (co : Int), .int .i64 (s : Int), .int .i64 (u : Int)] 68)).drew := ((Below.refl _ _).alloc (Nat.le_refl _) _).drew
      have hBs : B ≤ wr.heap.size := by rw [← HBW.out]; exact HS.out.2.2.size
      have HN : Hid ((wr.alloc (.cells #[.int .i64 0, .int .i64 (co : Int), .int .i64 (s : Int), .int .i64 (u : Int)] 68)).drew.heap[wr.heap.size]? = some (.cells #[.int .i64 0, .int .i64 (co : Int), .int .i64 (s : Int), .int .i64 (u : Int)] 68 (0, 0))) := hid (heap_new wr _)
      have HS2 : Hid ((wr.alloc (.cells #[.int .i64 0, .int .i64 (co : Int), .int .i64 (s : Int), .int .i64 (u : Int)] 68)).drew.heap[X0]? = some (.cells (wc b).toArray 68 (0, 0)) ∧ RowW (wr.alloc (.cells #[.int .i64 0, .int .i64 (co : Int), .int .i64 (s : Int), .int .i64 (u : Int)] 68)).drew Bx (.slice (some ⟨M, 0, none⟩) n n) n (tbl xs) ∧ Below B w (wr.alloc (.cells #[.int .i64 0, .int .i64 (co : Int), .int .i64 (s : Int), .int .i64 (u : Int)] 68)).drew) :=
        hid ⟨(hba.block X0 (heap_lt HS.out.1)).trans HS.out.1, row_stays HS.out.2.1 hba, HS.out.2.2.trans (hba.mono hBs)⟩
      have hX01 : X0 < wr.heap.size := heap_lt HS.out.1
      clear hba hBs HS
      go_upto_region 9 with fail
      go_region_held3 (fun w' => w'.cell? ⟨M, u * 4 + 1, none⟩ = some (.int .i64 (co : Int)) ∧ w'.cell? ⟨M, u * 4 + 2, none⟩ = some (.int .i64 (s : Int)))
        (go_keep)
        (fail)
      clear c0 r1 r2
      generalize wr.heap.size = X1 at HN hX01 ⊢
      generalize World.drew _ = w7 at HN HS2 ⊢
      obtain ⟨e0, e1, e2, e3⟩ := cells_ofW b HS2.out.1
      have d0 := cell_of_row w7 X1 0 _ _ _ HN.out
      have d1 := cell_of_row w7 X1 1 _ _ _ HN.out
      have d2 := cell_of_row w7 X1 2 _ _ _ HN.out
      have d3 := cell_of_row w7 X1 3 _ _ _ HN.out
      have f0 : ∀ j, w7.frozen? ⟨X0, j, none⟩ = false := fun j => frozen_of_row w7 X0 j _ _ HS2.out.1
      simp only [List.getElem?_toArray, List.getElem?_cons_zero, List.getElem?_cons_succ] at d0 d1 d2 d3
      have HB' : Hid (∀ b', stepB (tbl xs) b u = b' → bestOf (tbl xs) (i + 1) Y = b') := hid (fun b' h => by rw [bestOf_succ, HBB.out, HU.out]; exact h)
      have HPUT : Hid (((((w7.setCell ⟨X0, 0, none⟩ (.int .i64 0)).setCell ⟨X0, 1, none⟩ (.int .i64 co)).setCell ⟨X0, 2, none⟩ (.int .i64 s)).setCell ⟨X0, 3, none⟩ (.int .i64 u)).heap[X0]? = some (.cells (wc (cw (tbl xs) u)).toArray 68 (0, 0)) ∧ RowW ((((w7.setCell ⟨X0, 0, none⟩ (.int .i64 0)).setCell ⟨X0, 1, none⟩ (.int .i64 co)).setCell ⟨X0, 2, none⟩ (.int .i64 s)).setCell ⟨X0, 3, none⟩ (.int .i64 u)) Bx (.slice (some ⟨M, 0, none⟩) n n) n (tbl xs) ∧ Below B w ((((w7.setCell ⟨X0, 0, none⟩ (.int .i64 0)).setCell ⟨X0, 1, none⟩ (.int .i64 co)).setCell ⟨X0, 2, none⟩ (.int .i64 s)).setCell ⟨X0, 3, none⟩ (.int .i64 u))) :=
        hid ⟨by rw [HCW.out]; exact set4 HS2.out.1 _ _ _ _, by
          have hne : (Value.slice (some ⟨M, 0, none⟩) n n).ownBlock ≠ some X0 := by simp [Value.ownBlock]; omega
          exact row_other (row_other (row_other (row_other HS2.out.2.1 hne _) hne _) hne _) hne _, set4_below HS2.out.2.2 hB6 _ _ _ _⟩
      rcases Nat.eq_zero_or_pos s with hs | hs
      · subst hs
        have HBN := hid (HB'.out b (by unfold stepB; rw [if_neg (fun h => by have := HSS.out; omega)]))
        clear HPUT HCW d1 d3 d0 e0 e1 e3
        go_wp2_with fail
        go_roundw
        case rel => exact ⟨i + 1, by omega, by go_num, by rw [HBN.out]; exact HS2⟩
        case measure => simp [intOf]; omega
      · have hs1 : (0 : Int) < (s : Int) := by omega
        by_cases hb0 : b.ns = 0
        · rw [hb0] at e2
          have HBN := hid (HB'.out _ (show stepB (tbl xs) b u = cw (tbl xs) u by unfold stepB; rw [if_pos ⟨by rw [HSS.out]; exact hs, .inl hb0⟩]))
          go_wp2_with fail
          go_roundw
          case rel => exact ⟨i + 1, by omega, by go_num, by rw [HBN.out]; exact HPUT⟩
          case measure => simp [intOf]; omega
        · have hbn : ((b.ns : Int) == 0) = false := by simpa using hb0
          have hbn' : ¬ ((b.ns : Int) = 0) := by simpa using hb0
          by_cases hlt3 : lt3 (⟨0, co, s, (u : Int)⟩ : Wy).rk b.rk
          · have HBN := hid (HB'.out _ (show stepB (tbl xs) b u = cw (tbl xs) u by unfold stepB; rw [if_pos ⟨by rw [HSS.out]; exact hs, .inr (by rw [HCW.out]; exact hlt3)⟩]))
            have HL := hid (decide_eq_true hlt3)
            clear hlt3 HPUT
            go_wp2_with fail
            refine (better_is (a := ⟨0, co, s, (u : Int)⟩) (b := b) true HL.out w7).mono ?_
            rintro e w8 ⟨rfl, hb8⟩
            have HN8 := hid ((hb8.block X1 (heap_lt HN.out)).trans HN.out)
            have HS8 : Hid (w8.heap[X0]? = some (.cells (wc b).toArray 68 (0, 0)) ∧ RowW w8 Bx (.slice (some ⟨M, 0, none⟩) n n) n (tbl xs) ∧ Below B w w8) :=
              hid ⟨(hb8.block X0 (heap_lt HS2.out.1)).trans HS2.out.1, row_stays HS2.out.2.1 hb8, HS2.out.2.2.trans (hb8.mono (by rw [← HBW.out]; exact HS2.out.2.2.size))⟩
            clear hb8 HN HS2 d0 d1 d2 d3 e0 e1 e2 e3 f0
            have d0 := cell_of_row w8 X1 0 _ _ _ HN8.out
            have d1 := cell_of_row w8 X1 1 _ _ _ HN8.out
            have d2 := cell_of_row w8 X1 2 _ _ _ HN8.out
            have d3 := cell_of_row w8 X1 3 _ _ _ HN8.out
            obtain ⟨e0, e1, e2, e3⟩ := cells_ofW b HS8.out.1
            have f0 : ∀ j, w8.frozen? ⟨X0, j, none⟩ = false := fun j => frozen_of_row w8 X0 j _ _ HS8.out.1
            simp only [List.getElem?_toArray, List.getElem?_cons_zero, List.getElem?_cons_succ] at d0 d1 d2 d3
            have HPUT : Hid (((((w8.setCell ⟨X0, 0, none⟩ (.int .i64 0)).setCell ⟨X0, 1, none⟩ (.int .i64 co)).setCell ⟨X0, 2, none⟩ (.int .i64 s)).setCell ⟨X0, 3, none⟩ (.int .i64 u)).heap[X0]? = some (.cells (wc (cw (tbl xs) u)).toArray 68 (0, 0)) ∧ RowW ((((w8.setCell ⟨X0, 0, none⟩ (.int .i64 0)).setCell ⟨X0, 1, none⟩ (.int .i64 co)).setCell ⟨X0, 2, none⟩ (.int .i64 s)).setCell ⟨X0, 3, none⟩ (.int .i64 u)) Bx (.slice (some ⟨M, 0, none⟩) n n) n (tbl xs) ∧ Below B w ((((w8.setCell ⟨X0, 0, none⟩ (.int .i64 0)).setCell ⟨X0, 1, none⟩ (.int .i64 co)).setCell ⟨X0, 2, none⟩ (.int .i64 s)).setCell ⟨X0, 3, none⟩ (.int .i64 u))) :=
              hid ⟨by rw [HCW.out]; exact set4 HS8.out.1 _ _ _ _, by
                have hne : (Value.slice (some ⟨M, 0, none⟩) n n).ownBlock ≠ some X0 := by simp [Value.ownBlock]; omega
                exact row_other (row_other (row_other (row_other HS8.out.2.1 hne _) hne _) hne _) hne _, set4_below HS8.out.2.2 hB6 _ _ _ _⟩
            go_wp2_with fail
            go_roundw
            case rel => exact ⟨i + 1, by omega, by go_num, by rw [HBN.out]; exact HPUT⟩
            case measure => simp [intOf]; omega
          · have HBN := hid (HB'.out _ (show stepB (tbl xs) b u = b by unfold stepB; rw [if_neg (fun h => h.2.elim (fun h => hb0 h) (fun h => hlt3 (by rw [HCW.out] at h; exact h)))]))
            have HL := hid (decide_eq_false hlt3)
            clear hlt3 HPUT
            go_wp2_with fail
            refine (better_is (a := ⟨0, co, s, (u : Int)⟩) (b := b) false HL.out w7).mono ?_
            rintro e w8 ⟨rfl, hb8⟩
            have HS8 : Hid (w8.heap[X0]? = some (.cells (wc b).toArray 68 (0, 0)) ∧ RowW w8 Bx (.slice (some ⟨M, 0, none⟩) n n) n (tbl xs) ∧ Below B w w8) :=
              hid ⟨(hb8.block X0 (heap_lt HS2.out.1)).trans HS2.out.1, row_stays HS2.out.2.1 hb8, HS2.out.2.2.trans (hb8.mono (by rw [← HBW.out]; exact HS2.out.2.2.size))⟩
            clear hb8 HN HS2 d0 d1 d2 d3 e0 e1 e2 e3 f0
            go_wp2_with fail
            go_roundw
            case rel => exact ⟨i + 1, by omega, by go_num, by rw [HBN.out]; exact HS8⟩
            case measure => simp [intOf]; omega
    · obtain rfl : p = i := by omega
      obtain ⟨b, hb⟩ : ∃ b, bestOf (tbl xs) p Y = b := ⟨_, rfl⟩
      have HBB := hid hb
      rw [hb] at HS
      clear hb
      obtain ⟨e0, e1, e2, e3⟩ := cells_ofW b HS.out.1
      by_cases hb0 : b.ns = 0
      · rw [hb0] at e2
        clear e0 e1 e3
        go_wp2_with fail
        ((try simp only [Exit.inBlock, Exit.then]); refine bodyPost_ret (results_tmp4 rfl _ _ _) rfl ?_)
        exact ⟨xs, HRUN.out, HFIN.out, by rw [HBW.out]; exact HS.out.2.2, .inl ⟨by rw [HBB.out]; exact hb0, rfl⟩⟩
      · have hbn : ((b.ns : Int) == 0) = false := by simpa using hb0
        have hbn' : ¬ ((b.ns : Int) = 0) := by simpa using hb0
        obtain ⟨l, hl1, hl2, hl3⟩ : ∃ l, Tr (tbl xs) b.nx l ∧ l.length ≤ 100000 ∧ ∀ u ∈ l, u < n := by
          rcases bestOf_is (tbl xs) Y p with ⟨h, _⟩ | ⟨j, hj, h, hpos, _⟩
          · rw [HBB.out] at h; subst h; exact absurd rfl hb0
          · rw [HBB.out] at h
            have ho := tbl_opt HRUN.out HFIN.out hpos
            obtain ⟨l, h1, h2, h3⟩ := trail_ex HRUN.out HFIN.out (fun i hi => (HB.out i hi).2.2) (HY.out j hj) ho
            have hk := ho.short (fun i hi => (HB.out i hi).2.2) (HY.out j hj)
            exact ⟨l, by rw [h]; exact h1, by omega, h3⟩
        have HL1 := hid hl1
        have HL2 := hid hl2
        have HL3 := hid hl3
        clear hl1 hl2 hl3 e0
        have HRW := hid (row_stays HS.out.2.1 ((Below.refl wr.heap.size wr).drew))
        have HBW2 := hid (HS.out.2.2.drew)
        have HX0 := hid (heap_lt HS.out.1)
        go_upto_region 15 with fail
        clear hbn hbn' e2
        go_region_held3 (fun w' => w'.cell? ⟨X0, 1, none⟩ = some (.int .i64 b.co) ∧ w'.cell? ⟨X0, 3, none⟩ = some (.int .i64 b.nx))
          (go_keep)
          (first
            | (go_at_call 47; refine (trail_any M n Bx n (tbl xs) b.nx l HL2.out HL3.out HL1.out wr.drew HRW.out).mono ?_; rintro e w9 ⟨v, rfl, hrow, hb9⟩; have k1 := (hb9.cell (p := ⟨X0, 1, none⟩) HX0.out).trans e1; have k3 := (hb9.cell (p := ⟨X0, 3, none⟩) HX0.out).trans e3))
        go_wp2_with fail
        ((try simp only [Exit.inBlock, Exit.then]); refine bodyPost_ret (results_tmp4 rfl _ _ _) rfl ?_)
        refine ⟨xs, HRUN.out, HFIN.out, by rw [HBW.out]; exact HBW2.out.trans (hb9.mono (by rw [← HBW.out]; exact HBW2.out.size)), .inr ⟨by rw [HBB.out]; omega, l, v, by rw [HBB.out]; exact HL1.out, by rw [HBB.out]; rfl, ?_⟩⟩
        rw [HBW.out]
        exact row_mono hrow (by rw [← HBW.out]; exact HBW2.out.size)
end Go.Proofs.Ytokpdjdpeaccbaa
