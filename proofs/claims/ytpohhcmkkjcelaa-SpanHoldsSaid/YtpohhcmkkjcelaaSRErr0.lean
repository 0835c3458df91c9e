/-
  The walk of spanError of the reference behind its small tests, kind 0.
-/
import Derived.Test.YtpohhcmkkjcelaaSRErr
namespace Go.Proofs.Ytpohhcmkkjcelaa
open Go.RowKit

set_option maxRecDepth 20000 in
set_option maxHeartbeats 12800000 in
theorem rerr_late0 {W H : Nat} (ao : Option Addr) (n cap : Nat) (Z : Nat → Int) (hg : Good W H n Z) (u : Int) (hk : Kd 0 u) (p q : Nat) (hp : p < W * H) (hq : q < W * H) (hl : Line W p q) (hn : 1 ≤ cnt (stp W p q) p q ∧ cnt (stp W p q) p q ≤ 10) (e : Int) (h5 : ¬ Lies W Z 0 p q → e = 5) (h0 : Lies W Z 0 p q → e = 0) (w : World) (hI : Ints w ao n Z) :
    Calls Try.prog 30 #[lv W H (.slice ao n cap), sv 0 p q u] w fun r w' => r = .returned (.int .i64 e) ∧ Below w.heap.size w w' := by
  obtain ⟨hW1, hW2, hH1, hH2⟩ := hg.side
  have hms := mul_small hW2 hH2
  obtain ⟨m, hm⟩ : ∃ m, m = W * H := ⟨_, rfl⟩
  have em : (W : Int) * (H : Int) = (m : Int) := by rw [hm]; simp
  have HM := hid (mb_start (W := W) (H := H) (cap := cap) (k := 0) (a := p) (b := q) (u := u) hI)
  have HI := hid hI
  have HG := hid hg
  have HP := hid hp
  have HQ := hid hq
  have hp2 : p ≤ 1024 := by omega
  have hq2 : q ≤ 1024 := by omega
  have hpm : (p : Int) < (m : Int) := by omega
  have hqm : (q : Int) < (m : Int) := by omega
  have HL := hid hl
  have hlt := hl.1
  obtain ⟨k1, k2, u1, u2⟩ := hk
  have hsp := stp_pos (W := W) (a := p) (b := q) hW1
  obtain ⟨d, hd⟩ : ∃ d, d = stp W p q := ⟨_, rfl⟩
  obtain ⟨c, hc⟩ : ∃ c, c = cnt d p q := ⟨_, rfl⟩
  have HD := hid hd
  have HC := hid hc
  have HGN : Hid (d = gapN W p q) := hid (by rw [gap_stp hl.2]; exact hd)
  rw [← hd] at hsp hn
  rw [← hc] at hn
  obtain ⟨hsp1, hsp2⟩ := hsp
  have hd0 : ((d : Int) == 0) = false := by rw [beq_eq_false_iff_ne]; omega
  rw [← hm] at hms
  clear hm hp hq hl hd hc hI hg
  obtain ⟨hn1, hn2⟩ := hn
  have hn3 : ((c : Int) == 0) = false := by rw [beq_eq_false_iff_ne]; omega
  obtain ⟨sa, hsa⟩ : ∃ s, s = slope W Z p := ⟨_, rfl⟩
  obtain ⟨ma, hma⟩ : ∃ s, s = base W Z p := ⟨_, rfl⟩
  obtain ⟨sb, hsb⟩ : ∃ s, s = slope W Z q := ⟨_, rfl⟩
  obtain ⟨mb, hmb⟩ : ∃ s, s = base W Z q := ⟨_, rfl⟩
  have HSA := hid hsa
  have HMA := hid hma
  have HSB := hid hsb
  have HMB := hid hmb
  have H5 := hid h5
  have H0 := hid h0
  clear hsa hma hsb hmb h5 h0 k1 k2
  by_cases h1 : mb = ma ∧ sa < 16 ∧ sb < 16
  · obtain ⟨hm, h2, h3⟩ := h1
    have g1 : (mb == ma) = true := by rw [beq_iff_eq]; exact hm
    have g2 : (mb != ma) = false := by simp [hm]
    have HMM := hid hm
    clear hm
    go_enter Try.func30, Try.ntmps30
    go_upto_region 1 with fail
    generalize World.alloc (World.alloc w _) _ = wm at HM ⊢
    have c0 := HM.out.c0; have c1 := HM.out.c1; have c2 := HM.out.c2; have d0 := HM.out.d0; have d1 := HM.out.d1; have d2 := HM.out.d2; have d3 := HM.out.d3; have hz := HM.out.size
    go_wp2_with (first | (go_at_call 46; (with_reducible refine (gap_any W H hW1 hW2 _ 0 u p q hp2 hq2 d HGN.out _).mono ?_); rintro e w1 ⟨rfl, hb⟩; have HN := hid (HM.out.stays hb); clear hb c0 c1 c2 d0 d1 d2 d3 hz HM; have HM := HN; clear HN; have c0 := HM.out.c0; have c1 := HM.out.c1; have c2 := HM.out.c2; have d0 := HM.out.d0; have d1 := HM.out.d1; have d2 := HM.out.d2; have d3 := HM.out.d3; have hz := HM.out.size) | (go_at_call 43; (with_reducible refine (between_to hW1 hW2 ao n cap Z 0 u p q hp2 hq2 HL.out d c HD.out HC.out _ HM.out.ints).mono ?_); rintro e w1 ⟨v, rfl, hrow, hb⟩; obtain ⟨vo, vc, rfl⟩ := row_slice hrow; have HN := hid (EM.mk (HM.out.stays hb) (row_mono hrow HM.out.below.size)); clear hb hrow c0 c1 c2 d0 d1 d2 d3 hz HM; have HM := HN; clear HN; have c0 := HM.out.mb.c0; have c1 := HM.out.mb.c1; have c2 := HM.out.mb.c2; have d0 := HM.out.mb.d0; have d1 := HM.out.mb.d1; have d2 := HM.out.mb.d2; have d3 := HM.out.mb.d3; have hz := HM.out.mb.size) | (go_at_call 59; (with_reducible refine (base_any W H ao n cap Z HG.out p HP.out _ HM.out.mb.ints).mono ?_); rw [← HMA.out]; rintro e w1 ⟨rfl, hb⟩; have HN := hid (HM.out.stays hb); clear hb c0 c1 c2 d0 d1 d2 d3 hz HM; have HM := HN; clear HN; have c0 := HM.out.mb.c0; have c1 := HM.out.mb.c1; have c2 := HM.out.mb.c2; have d0 := HM.out.mb.d0; have d1 := HM.out.mb.d1; have d2 := HM.out.mb.d2; have d3 := HM.out.mb.d3; have hz := HM.out.mb.size) | (go_at_call 59; (with_reducible refine (base_any W H ao n cap Z HG.out q HQ.out _ HM.out.mb.ints).mono ?_); rw [← HMB.out]; rintro e w1 ⟨rfl, hb⟩; have HN := hid (HM.out.stays hb); clear hb c0 c1 c2 d0 d1 d2 d3 hz HM; have HM := HN; clear HN; have c0 := HM.out.mb.c0; have c1 := HM.out.mb.c1; have c2 := HM.out.mb.c2; have d0 := HM.out.mb.d0; have d1 := HM.out.mb.d1; have d2 := HM.out.mb.d2; have d3 := HM.out.mb.d3; have hz := HM.out.mb.size) | (go_at_call 60; (with_reducible refine (rslope_any W H ao n cap Z HG.out p HP.out _ HM.out.mb.ints).mono ?_); rw [← HSA.out]; rintro e w1 ⟨rfl, hb⟩; have HN := hid (HM.out.stays hb); clear hb c0 c1 c2 d0 d1 d2 d3 hz HM; have HM := HN; clear HN; have c0 := HM.out.mb.c0; have c1 := HM.out.mb.c1; have c2 := HM.out.mb.c2; have d0 := HM.out.mb.d0; have d1 := HM.out.mb.d1; have d2 := HM.out.mb.d2; have d3 := HM.out.mb.d3; have hz := HM.out.mb.size) | (go_at_call 60; (with_reducible refine (rslope_any W H ao n cap Z HG.out q HQ.out _ HM.out.mb.ints).mono ?_); rw [← HSB.out]; rintro e w1 ⟨rfl, hb⟩; have HN := hid (HM.out.stays hb); clear hb c0 c1 c2 d0 d1 d2 d3 hz HM; have HM := HN; clear HN; have c0 := HM.out.mb.c0; have c1 := HM.out.mb.c1; have c2 := HM.out.mb.c2; have d0 := HM.out.mb.d0; have d1 := HM.out.mb.d1; have d2 := HM.out.mb.d2; have d3 := HM.out.mb.d3; have hz := HM.out.mb.size))
    have hvo : ∃ vg, vo = some ⟨vg, 0, none⟩ := by
      obtain ⟨g, c', e', _, _⟩ := HM.out.row.form (by omega)
      cases e'
      exact ⟨_, rfl⟩
    obtain ⟨vg, rfl⟩ := hvo
    clear c0 c1 c2 d0 d1 d2 d3 hz
    go_loopw [8] (fun iv wr => ∃ i : Nat, i ≤ c ∧ iv = .int .i64 i ∧ Hid (∀ j, j < i → MidOk W Z 0 ma (p + (j + 1) * d)) ∧ Hid (EM W H ao n cap Z 0 p q u d c (.slice (some ⟨vg, 0, none⟩) c vc) w wr)) (fun iv _ => c - (intOf iv).toNat)
    case atStart => exact ⟨0, Nat.zero_le _, rfl, hid (fun j hj => by omega), HM⟩
    case round =>
      obtain ⟨i, hi, rfl, hd1, hE⟩ := hrel
      clear HM
      by_cases hlt : i < c
      · obtain ⟨t, ht⟩ : ∃ t : Nat, t = p + (i + 1) * d := ⟨_, rfl⟩
        have htl : tl p d i = (t : Int) := by rw [tl_eq, ht]
        have hu : Hid (t < W * H) := hid (by rw [ht, HD.out]; exact mid_tile hW1 HQ.out HL.out.1 (by rw [← HD.out, ← HC.out]; exact hlt))
        have HTX := hid ht
        have HTI := hid (And.intro hlt htl)
        have hz3 : w.heap.size + 2 ≤ wr.heap.size := hE.out.mb.size
        have hvz : vg < wr.heap.size := (hE.out.row.lt vg rfl).2
        obtain ⟨z0, e0⟩ : ∃ z, z = Z (nw W t) := ⟨_, rfl⟩
        obtain ⟨z1, e1⟩ : ∃ z, z = Z (nw W t + 1) := ⟨_, rfl⟩
        obtain ⟨z2, e2⟩ : ∃ z, z = Z (nw W t + W + 2) := ⟨_, rfl⟩
        obtain ⟨z3, e3⟩ : ∃ z, z = Z (nw W t + W + 1) := ⟨_, rfl⟩
        have HZ : Hid (fourH W Z t = .agg #[.int .i64 z0, .int .i64 z1, .int .i64 z2, .int .i64 z3]) := hid (by unfold fourH; rw [e0, e1, e2, e3])
        have HBT : Hid (base W Z t = mn4 z0 z1 z2 z3 ∧ top W Z t = mx4 z0 z1 z2 z3) := hid (by unfold base top; rw [e0, e1, e2, e3]; exact ⟨rfl, rfl⟩)
        clear ht htl e0 e1 e2 e3
        have hi0 : (0 : Int) ≤ (i : Int) := by omega
        have hi1 : (i : Int) < (c : Int) := by omega
        go_upto_region 17 with fail
        obtain ⟨B, hBB⟩ : ∃ B, B = max (vg + 1) (w.heap.size + 2) := ⟨_, rfl⟩
        have HBB : Hid (vg < B ∧ w.heap.size + 2 ≤ B) := hid (by omega)
        have hzB : B ≤ wr.heap.size := by omega
        clear hBB
        go_cut [9] from 108 to 113 (fun s9 wx => ∃ g : Nat, s9 = .pointer (some ⟨g, 0, none⟩) ∧ Hid (EM W H ao n cap Z 0 p q u d c (.slice (some ⟨vg, 0, none⟩) c vc) w wx ∧ wx.heap[g]? = some (.cells #[.int .i64 z0, .int .i64 z1, .int .i64 z2, .int .i64 z3] 75 (0, 0))))
        case first =>
          refine wp_region_held_drew (S := (fun wr => EM W H ao n cap Z 0 p q u d c (.slice (some ⟨vg, 0, none⟩) c vc) w wr ∧ wr.cell? ⟨w.heap.size, 0, none⟩ = some (.int .i64 W) ∧ wr.cell? ⟨w.heap.size, 1, none⟩ = some (.int .i64 H) ∧ wr.cell? ⟨w.heap.size, 2, none⟩ = some (.slice ao n cap) ∧ wr.cell? ⟨vg, i, none⟩ = some (.int .i64 (t : Int)))) (by kernel_rfl) (em_keep HTI.out (And.intro hE.out trivial) ((Below.refl _ _).drew)) (fun hHeld => ?_)
          have hlo0 : B ≤ (wr.drew).heap.size := hzB
          generalize wr.drew = wx0 at hHeld hlo0  ⊢
          refine wpAnyH_take (i := 0) (oi := { dst := some 108, op := Op.load 24 (Operand.tmp 2), type := 24, pos := "ref.go:83", after := #[], guard := none }) (v := ?_) rfl (by kernel_rfl) (by kernel_rfl) (by kernel_rfl) (fun _ _ _ h => h) (Or.inl ⟨by rfl, ?_⟩) (by assumption) ?_
          rotate_left
          · intro w hSw; (try dsimp only at hSw); go_simp; try (with_reducible rfl)
          try simp only [Act.put, List.setIfInBounds_toArray, List.set_cons_zero, List.set_cons_succ]
          refine wpAnyH_take (i := 1) (oi := { dst := some 109, op := Op.move (Operand.tmp 6), type := 22, pos := "ref.go:83", after := #[], guard := none }) (v := ?_) rfl (by kernel_rfl) (by kernel_rfl) (by kernel_rfl) (fun _ _ _ h => h) (Or.inl ⟨by rfl, ?_⟩) (by assumption) ?_
          rotate_left
          · intro w hSw; (try dsimp only at hSw); go_simp; try (with_reducible rfl)
          try simp only [Act.put, List.setIfInBounds_toArray, List.set_cons_zero, List.set_cons_succ]
          refine wpAnyH_take (i := 2) (oi := { dst := some 110, op := Op.move (Operand.tmp 8), type := 3, pos := "ref.go:83", after := #[], guard := none }) (v := ?_) rfl (by kernel_rfl) (by kernel_rfl) (by kernel_rfl) (fun _ _ _ h => h) (Or.inl ⟨by rfl, ?_⟩) (by assumption) ?_
          rotate_left
          · intro w hSw; (try dsimp only at hSw); go_simp; try (with_reducible rfl)
          try simp only [Act.put, List.setIfInBounds_toArray, List.set_cons_zero, List.set_cons_succ]
          refine wpAnyH_take (i := 3) (oi := { dst := some 111, op := Op.indexAddr 22 (Operand.tmp 109) (Operand.tmp 110), type := 0, pos := "ref.go:83", after := #[{ on := 1, ground := Ground.data }, { on := 2, ground := Ground.data }], guard := none }) (v := ?_) rfl (by kernel_rfl) (by kernel_rfl) (by kernel_rfl) (fun _ _ _ h => h) (Or.inl ⟨by rfl, ?_⟩) (by assumption) ?_
          rotate_left
          · intro w hSw; (try dsimp only at hSw); go_simp; try (with_reducible rfl)
          try simp only [Act.put, List.setIfInBounds_toArray, List.set_cons_zero, List.set_cons_succ]
          refine wpAnyH_take (i := 4) (oi := { dst := some 112, op := Op.load 3 (Operand.tmp 111), type := 3, pos := "ref.go:83", after := #[{ on := 3, ground := Ground.data }], guard := none }) (v := ?_) rfl (by kernel_rfl) (by kernel_rfl) (by kernel_rfl) (fun _ _ _ h => h) (Or.inl ⟨by rfl, ?_⟩) (by assumption) ?_
          rotate_left
          · intro w hSw; (try dsimp only at hSw); go_simp; try (with_reducible rfl)
          try simp only [Act.put, List.setIfInBounds_toArray, List.set_cons_zero, List.set_cons_succ]
          refine wpAnyH_ready (rs := [5, 6]) (by kernel_rfl) (by simp) ?_
          refine (AllReadyH.cons (o := { dst := some 113, op := Op.call { callee := Callee.value (Operand.func 61), args := #[Operand.tmp 108, Operand.tmp 112], argTypes := #[24, 3] }, type := 75, pos := "ref.go:83", after := #[{ on := 0, ground := Ground.data }, { on := 4, ground := Ground.data }], guard := none }) rfl (fun K hK => ?_) (AllReadyH.cons (o := { dst := some 9, op := Op.alloc 75, type := 0, pos := "ref.go:83", after := #[], guard := none }) rfl (fun K hK => ?_) AllReadyH.nil))
          · skip
            go_simp
            refine (corners_any W H ao n cap Z HG.out t hu.out _ (em_ints (by assumption))).mono ?_
            rw [HZ.out]
            rintro e wx1 ⟨rfl, hb1⟩
            try go_wp2_with fail
            have hlo1 := Nat.le_trans hlo0 hb1.size
            have hHeld1S := em_keep HTI.out hHeld hb1
            refine hK.out _ _ hHeld1S (fun hHeld1 => ?_)
            clear hK K hHeld1S hb1 hlo0 
            try simp only [Act.put, List.setIfInBounds_toArray, List.set_cons_zero, List.set_cons_succ]
            clear hHeld
            refine wpAnyH_ready (rs := [6]) (by kernel_rfl) (by simp) ?_
            refine (AllReadyH.cons (o := { dst := some 9, op := Op.alloc 75, type := 0, pos := "ref.go:83", after := #[], guard := none }) rfl (fun K hK => ?_) AllReadyH.nil)
            · skip
              go_simp
              have hb2 := Joins.below_alloc1 wx1 (.cells #[.int .i64 0, .int .i64 0, .int .i64 0, .int .i64 0] 75)
              have FA_2 := World.alloc_heap_new wx1 (.cells #[.int .i64 0, .int .i64 0, .int .i64 0, .int .i64 0] 75)
              have hlo2 := Nat.le_trans hlo1 hb2.size
              have hloA := hlo1
              have hHeld2S := em_keep HTI.out hHeld1 hb2
              generalize World.alloc wx1 (.cells #[.int .i64 0, .int .i64 0, .int .i64 0, .int .i64 0] 75) = wx2 at hb2 hlo2 hHeld2S FA_2 ⊢
              obtain ⟨pA, hpA⟩ : ∃ p, p = wx1.heap.size := ⟨_, rfl⟩
              rw [← hpA] at FA_2 hloA ⊢
              clear hpA
              refine hK.out _ _ hHeld2S (fun hHeld2 => ?_)
              clear hK K hHeld2S hb2 hlo1 
              try simp only [Act.put, List.setIfInBounds_toArray, List.set_cons_zero, List.set_cons_succ]
              clear hHeld1
              refine wpAnyH_ready (rs := [7]) (by kernel_rfl) (by simp) ?_
              refine (AllReadyH.cons (o := { dst := none, op := Op.store 75 (Operand.tmp 9) (Operand.tmp 113), type := 0, pos := "ref.go:83", after := #[{ on := 6, ground := Ground.data }, { on := 5, ground := Ground.data }, { on := 5, ground := Ground.chain }, { on := 0, ground := Ground.phase }, { on := 1, ground := Ground.phase }, { on := 2, ground := Ground.phase }, { on := 3, ground := Ground.phase }, { on := 4, ground := Ground.phase }, { on := 5, ground := Ground.phase }, { on := 6, ground := Ground.phase }], guard := none }) rfl (fun K hK => ?_) AllReadyH.nil)
              · skip
                obtain ⟨q0, q1, q2, q3, q4, q5, q6, q7, q8⟩ := bx_facts4 FA_2
                go_simp
                obtain ⟨wx3, hw3, FA_3, ho3, hlo3z, hb3⟩ := bx_put4 FA_2 (.int .i64 z0) (.int .i64 z1) (.int .i64 z2) (.int .i64 z3)
                rw [← hw3]
                have hlo3 := Nat.le_trans hlo2 (Nat.le_of_eq hlo3z.symm)
                have hHeld3S := em_put HI.out HTI.out hHeld2 HBB.out (hb3 _ hloA)
                clear hw3 ho3 hlo3z q0 q1 q2 q3 q4 q5 q6 q7 q8
                refine hK.out _ _ hHeld3S (fun hHeld3 => ?_)
                clear hK K hHeld3S hb3 hlo2 FA_2
                try simp only [Act.put, List.setIfInBounds_toArray, List.set_cons_zero, List.set_cons_succ]
                clear hHeld2
                refine wpAnyH_done (by kernel_rfl) ?_ _
                have HX := hid (And.intro hHeld3.1 FA_3)
                clear hHeld3 FA_3
                go_wp2_with fail
                go_meet
                exact ⟨pA, rfl, HX⟩
          · skip
            go_simp
            have hb4 := Joins.below_alloc1 wx0 (.cells #[.int .i64 0, .int .i64 0, .int .i64 0, .int .i64 0] 75)
            have FA_4 := World.alloc_heap_new wx0 (.cells #[.int .i64 0, .int .i64 0, .int .i64 0, .int .i64 0] 75)
            have hlo4 := Nat.le_trans hlo0 hb4.size
            have hloA := hlo0
            have hHeld4S := em_keep HTI.out hHeld hb4
            generalize World.alloc wx0 (.cells #[.int .i64 0, .int .i64 0, .int .i64 0, .int .i64 0] 75) = wx4 at hb4 hlo4 hHeld4S FA_4 ⊢
            obtain ⟨pA, hpA⟩ : ∃ p, p = wx0.heap.size := ⟨_, rfl⟩
            rw [← hpA] at FA_4 hloA ⊢
            clear hpA
            refine hK.out _ _ hHeld4S (fun hHeld4 => ?_)
            clear hK K hHeld4S hb4 hlo0 
            try simp only [Act.put, List.setIfInBounds_toArray, List.set_cons_zero, List.set_cons_succ]
            clear hHeld
            refine wpAnyH_ready (rs := [5]) (by kernel_rfl) (by simp) ?_
            refine (AllReadyH.cons (o := { dst := some 113, op := Op.call { callee := Callee.value (Operand.func 61), args := #[Operand.tmp 108, Operand.tmp 112], argTypes := #[24, 3] }, type := 75, pos := "ref.go:83", after := #[{ on := 0, ground := Ground.data }, { on := 4, ground := Ground.data }], guard := none }) rfl (fun K hK => ?_) AllReadyH.nil)
            · skip
              go_simp
              refine (corners_any W H ao n cap Z HG.out t hu.out _ (em_ints (by assumption))).mono ?_
              rw [HZ.out]
              rintro e wx5 ⟨rfl, hb5⟩
              try go_wp2_with fail
              have FA_5 := kq0 hb5 FA_4
              have hlo5 := Nat.le_trans hlo4 hb5.size
              have hHeld5S := em_keep HTI.out hHeld4 hb5
              refine hK.out _ _ hHeld5S (fun hHeld5 => ?_)
              clear hK K hHeld5S hb5 hlo4 FA_4
              try simp only [Act.put, List.setIfInBounds_toArray, List.set_cons_zero, List.set_cons_succ]
              clear hHeld4
              refine wpAnyH_ready (rs := [7]) (by kernel_rfl) (by simp) ?_
              refine (AllReadyH.cons (o := { dst := none, op := Op.store 75 (Operand.tmp 9) (Operand.tmp 113), type := 0, pos := "ref.go:83", after := #[{ on := 6, ground := Ground.data }, { on := 5, ground := Ground.data }, { on := 5, ground := Ground.chain }, { on := 0, ground := Ground.phase }, { on := 1, ground := Ground.phase }, { on := 2, ground := Ground.phase }, { on := 3, ground := Ground.phase }, { on := 4, ground := Ground.phase }, { on := 5, ground := Ground.phase }, { on := 6, ground := Ground.phase }], guard := none }) rfl (fun K hK => ?_) AllReadyH.nil)
              · skip
                obtain ⟨q0, q1, q2, q3, q4, q5, q6, q7, q8⟩ := bx_facts4 FA_5
                go_simp
                obtain ⟨wx6, hw6, FA_6, ho6, hlo6z, hb6⟩ := bx_put4 FA_5 (.int .i64 z0) (.int .i64 z1) (.int .i64 z2) (.int .i64 z3)
                rw [← hw6]
                have hlo6 := Nat.le_trans hlo5 (Nat.le_of_eq hlo6z.symm)
                have hHeld6S := em_put HI.out HTI.out hHeld5 HBB.out (hb6 _ hloA)
                clear hw6 ho6 hlo6z q0 q1 q2 q3 q4 q5 q6 q7 q8
                refine hK.out _ _ hHeld6S (fun hHeld6 => ?_)
                clear hK K hHeld6S hb6 hlo5 FA_5
                try simp only [Act.put, List.setIfInBounds_toArray, List.set_cons_zero, List.set_cons_succ]
                clear hHeld5
                refine wpAnyH_done (by kernel_rfl) ?_ _
                have HX := hid (And.intro hHeld6.1 FA_6)
                clear hHeld6 FA_6
                go_wp2_with fail
                go_meet
                exact ⟨pA, rfl, HX⟩
        case rest =>
          obtain ⟨g, rfl, HV⟩ := hcut
          obtain ⟨x0, x1, x2, x3, _, _, _, _, hgz⟩ := bx_facts4 HV.out.2
          have d0 := HV.out.1.mb.d0
          have hz := HV.out.1.mb.size
          clear hE
          go_wp2_with fail
          go_loop [10] (fun iv => ∃ k : Nat, k ≤ 4 ∧ iv = .int .i64 k ∧ Hid (∀ j, j < k → ¬ ma < at4 z0 z1 z2 z3 j)) (fun iv => 4 - (intOf iv).toNat)
          case atStart => exact ⟨0, by omega, rfl, hid (fun i hi => by omega)⟩
          case round =>
            obtain ⟨k, hk, rfl, hk2⟩ := hrel
            by_cases hlt : k < 4
            · rcases (show k = 0 ∨ k = 1 ∨ k = 2 ∨ k = 3 by omega) with rfl | rfl | rfl | rfl
              · by_cases hc : ma < z0
                · have hnl : Hid (e = 5) := hid (H5.out fun hL => by
                    have := hL.mid i (by rw [← HD.out, ← HC.out]; assumption)
                    rw [← HD.out, ← HTX.out, ← HMA.out] at this
                    have h2 := this.1 rfl
                    rw [HBT.out.2] at h2
                    unfold mx4 at h2
                    omega)
                  go_wp2_with fail
                  go_ret
                  exact ⟨ret_int hnl.out.symm, HV.out.1.mb.below⟩
                · go_wp2_with fail
                  refine ⟨⟨1, by omega, rfl, hid (fun j hj => ?_)⟩, by simp [intOf]⟩
                  by_cases h : j < 0
                  · exact hk2.out j h
                  · obtain rfl : j = 0 := by omega
                    exact hc
              · by_cases hc : ma < z1
                · have hnl : Hid (e = 5) := hid (H5.out fun hL => by
                    have := hL.mid i (by rw [← HD.out, ← HC.out]; assumption)
                    rw [← HD.out, ← HTX.out, ← HMA.out] at this
                    have h2 := this.1 rfl
                    rw [HBT.out.2] at h2
                    unfold mx4 at h2
                    omega)
                  go_wp2_with fail
                  go_ret
                  exact ⟨ret_int hnl.out.symm, HV.out.1.mb.below⟩
                · go_wp2_with fail
                  refine ⟨⟨2, by omega, rfl, hid (fun j hj => ?_)⟩, by simp [intOf]⟩
                  by_cases h : j < 1
                  · exact hk2.out j h
                  · obtain rfl : j = 1 := by omega
                    exact hc
              · by_cases hc : ma < z2
                · have hnl : Hid (e = 5) := hid (H5.out fun hL => by
                    have := hL.mid i (by rw [← HD.out, ← HC.out]; assumption)
                    rw [← HD.out, ← HTX.out, ← HMA.out] at this
                    have h2 := this.1 rfl
                    rw [HBT.out.2] at h2
                    unfold mx4 at h2
                    omega)
                  go_wp2_with fail
                  go_ret
                  exact ⟨ret_int hnl.out.symm, HV.out.1.mb.below⟩
                · go_wp2_with fail
                  refine ⟨⟨3, by omega, rfl, hid (fun j hj => ?_)⟩, by simp [intOf]⟩
                  by_cases h : j < 2
                  · exact hk2.out j h
                  · obtain rfl : j = 2 := by omega
                    exact hc
              · by_cases hc : ma < z3
                · have hnl : Hid (e = 5) := hid (H5.out fun hL => by
                    have := hL.mid i (by rw [← HD.out, ← HC.out]; assumption)
                    rw [← HD.out, ← HTX.out, ← HMA.out] at this
                    have h2 := this.1 rfl
                    rw [HBT.out.2] at h2
                    unfold mx4 at h2
                    omega)
                  go_wp2_with fail
                  go_ret
                  exact ⟨ret_int hnl.out.symm, HV.out.1.mb.below⟩
                · go_wp2_with fail
                  refine ⟨⟨4, by omega, rfl, hid (fun j hj => ?_)⟩, by simp [intOf]⟩
                  by_cases h : j < 3
                  · exact hk2.out j h
                  · obtain rfl : j = 3 := by omega
                    exact hc
            · obtain rfl : k = 4 := by omega
              have j0 := hk2.out 0 (by omega)
              have j1 := hk2.out 1 (by omega)
              have j2 := hk2.out 2 (by omega)
              have j3 := hk2.out 3 (by omega)
              simp only [at4] at j0 j1 j2 j3
              have HJ : Hid (MidOk W Z 0 ma t) := hid ⟨fun h => (by rw [HBT.out.2]; unfold mx4; omega), fun h => (by cases h)⟩
              have HV1 := hid HV.out.1
              clear j0 j1 j2 j3 hk2 x0 x1 x2 x3 d0 hz hgz HV
              go_wp2_with fail
              go_roundw
              case rel =>
                refine ⟨i + 1, by omega, by go_num, hid (fun j hj => ?_), HV1⟩
                by_cases h : j < i
                · exact hd1.out j h
                · obtain rfl : j = i := by omega
                  rw [← HTX.out]; exact HJ.out
              case measure => simp [intOf]; omega
      · obtain rfl : i = c := by omega
        have HM := hE
        clear hE
        have c0 := HM.out.mb.c0; have c1 := HM.out.mb.c1; have c2 := HM.out.mb.c2; have d0 := HM.out.mb.d0; have d1 := HM.out.mb.d1; have d2 := HM.out.mb.d2; have d3 := HM.out.mb.d3; have hz := HM.out.mb.size
        have he : Hid (e = 0) := hid (H0.out ⟨by rw [← HMA.out, ← HMB.out]; exact HMM.out.symm, by rw [← HSA.out]; exact h2, by rw [← HSB.out]; exact h3, fun h => (by cases h), (fun j hj => by rw [← HMA.out]; rw [← HD.out] at hj ⊢; rw [← HC.out] at hj; exact hd1.out j hj)⟩)
        go_wp2_with fail
        go_ret
        exact ⟨ret_int he.out.symm, HM.out.mb.below⟩
  · have hnl : Hid (e = 5) := hid (H5.out fun hL => h1 ⟨by rw [HMA.out, HMB.out]; exact hL.bases.symm, by rw [HSA.out]; exact hL.sa, by rw [HSB.out]; exact hL.sb⟩)
    by_cases hm : mb = ma
    · have g1 : (mb == ma) = true := by rw [beq_iff_eq]; exact hm
      have g2 : (mb != ma) = false := by simp [hm]
      by_cases h2 : sa < 16
      · have h3 : ¬ sb < 16 := fun h => h1 ⟨hm, h2, h⟩
        clear hm h1
        go_enter Try.func30, Try.ntmps30
        go_upto_region 1 with fail
        generalize World.alloc (World.alloc w _) _ = wm at HM ⊢
        have c0 := HM.out.c0; have c1 := HM.out.c1; have c2 := HM.out.c2; have d0 := HM.out.d0; have d1 := HM.out.d1; have d2 := HM.out.d2; have d3 := HM.out.d3; have hz := HM.out.size
        go_wp2_with (first | (go_at_call 46; (with_reducible refine (gap_any W H hW1 hW2 _ 0 u p q hp2 hq2 d HGN.out _).mono ?_); rintro e w1 ⟨rfl, hb⟩; have HN := hid (HM.out.stays hb); clear hb c0 c1 c2 d0 d1 d2 d3 hz HM; have HM := HN; clear HN; have c0 := HM.out.c0; have c1 := HM.out.c1; have c2 := HM.out.c2; have d0 := HM.out.d0; have d1 := HM.out.d1; have d2 := HM.out.d2; have d3 := HM.out.d3; have hz := HM.out.size) | (go_at_call 43; (with_reducible refine (between_to hW1 hW2 ao n cap Z 0 u p q hp2 hq2 HL.out d c HD.out HC.out _ HM.out.ints).mono ?_); rintro e w1 ⟨v, rfl, hrow, hb⟩; obtain ⟨vo, vc, rfl⟩ := row_slice hrow; have HN := hid (EM.mk (HM.out.stays hb) (row_mono hrow HM.out.below.size)); clear hb hrow c0 c1 c2 d0 d1 d2 d3 hz HM; have HM := HN; clear HN; have c0 := HM.out.mb.c0; have c1 := HM.out.mb.c1; have c2 := HM.out.mb.c2; have d0 := HM.out.mb.d0; have d1 := HM.out.mb.d1; have d2 := HM.out.mb.d2; have d3 := HM.out.mb.d3; have hz := HM.out.mb.size) | (go_at_call 59; (with_reducible refine (base_any W H ao n cap Z HG.out p HP.out _ HM.out.mb.ints).mono ?_); rw [← HMA.out]; rintro e w1 ⟨rfl, hb⟩; have HN := hid (HM.out.stays hb); clear hb c0 c1 c2 d0 d1 d2 d3 hz HM; have HM := HN; clear HN; have c0 := HM.out.mb.c0; have c1 := HM.out.mb.c1; have c2 := HM.out.mb.c2; have d0 := HM.out.mb.d0; have d1 := HM.out.mb.d1; have d2 := HM.out.mb.d2; have d3 := HM.out.mb.d3; have hz := HM.out.mb.size) | (go_at_call 59; (with_reducible refine (base_any W H ao n cap Z HG.out q HQ.out _ HM.out.mb.ints).mono ?_); rw [← HMB.out]; rintro e w1 ⟨rfl, hb⟩; have HN := hid (HM.out.stays hb); clear hb c0 c1 c2 d0 d1 d2 d3 hz HM; have HM := HN; clear HN; have c0 := HM.out.mb.c0; have c1 := HM.out.mb.c1; have c2 := HM.out.mb.c2; have d0 := HM.out.mb.d0; have d1 := HM.out.mb.d1; have d2 := HM.out.mb.d2; have d3 := HM.out.mb.d3; have hz := HM.out.mb.size) | (go_at_call 60; (with_reducible refine (rslope_any W H ao n cap Z HG.out p HP.out _ HM.out.mb.ints).mono ?_); rw [← HSA.out]; rintro e w1 ⟨rfl, hb⟩; have HN := hid (HM.out.stays hb); clear hb c0 c1 c2 d0 d1 d2 d3 hz HM; have HM := HN; clear HN; have c0 := HM.out.mb.c0; have c1 := HM.out.mb.c1; have c2 := HM.out.mb.c2; have d0 := HM.out.mb.d0; have d1 := HM.out.mb.d1; have d2 := HM.out.mb.d2; have d3 := HM.out.mb.d3; have hz := HM.out.mb.size) | (go_at_call 60; (with_reducible refine (rslope_any W H ao n cap Z HG.out q HQ.out _ HM.out.mb.ints).mono ?_); rw [← HSB.out]; rintro e w1 ⟨rfl, hb⟩; have HN := hid (HM.out.stays hb); clear hb c0 c1 c2 d0 d1 d2 d3 hz HM; have HM := HN; clear HN; have c0 := HM.out.mb.c0; have c1 := HM.out.mb.c1; have c2 := HM.out.mb.c2; have d0 := HM.out.mb.d0; have d1 := HM.out.mb.d1; have d2 := HM.out.mb.d2; have d3 := HM.out.mb.d3; have hz := HM.out.mb.size))
        go_ret
        exact ⟨ret_int hnl.out.symm, HM.out.mb.below⟩
      · clear hm h1
        go_enter Try.func30, Try.ntmps30
        go_upto_region 1 with fail
        generalize World.alloc (World.alloc w _) _ = wm at HM ⊢
        have c0 := HM.out.c0; have c1 := HM.out.c1; have c2 := HM.out.c2; have d0 := HM.out.d0; have d1 := HM.out.d1; have d2 := HM.out.d2; have d3 := HM.out.d3; have hz := HM.out.size
        go_wp2_with (first | (go_at_call 46; (with_reducible refine (gap_any W H hW1 hW2 _ 0 u p q hp2 hq2 d HGN.out _).mono ?_); rintro e w1 ⟨rfl, hb⟩; have HN := hid (HM.out.stays hb); clear hb c0 c1 c2 d0 d1 d2 d3 hz HM; have HM := HN; clear HN; have c0 := HM.out.c0; have c1 := HM.out.c1; have c2 := HM.out.c2; have d0 := HM.out.d0; have d1 := HM.out.d1; have d2 := HM.out.d2; have d3 := HM.out.d3; have hz := HM.out.size) | (go_at_call 43; (with_reducible refine (between_to hW1 hW2 ao n cap Z 0 u p q hp2 hq2 HL.out d c HD.out HC.out _ HM.out.ints).mono ?_); rintro e w1 ⟨v, rfl, hrow, hb⟩; obtain ⟨vo, vc, rfl⟩ := row_slice hrow; have HN := hid (EM.mk (HM.out.stays hb) (row_mono hrow HM.out.below.size)); clear hb hrow c0 c1 c2 d0 d1 d2 d3 hz HM; have HM := HN; clear HN; have c0 := HM.out.mb.c0; have c1 := HM.out.mb.c1; have c2 := HM.out.mb.c2; have d0 := HM.out.mb.d0; have d1 := HM.out.mb.d1; have d2 := HM.out.mb.d2; have d3 := HM.out.mb.d3; have hz := HM.out.mb.size) | (go_at_call 59; (with_reducible refine (base_any W H ao n cap Z HG.out p HP.out _ HM.out.mb.ints).mono ?_); rw [← HMA.out]; rintro e w1 ⟨rfl, hb⟩; have HN := hid (HM.out.stays hb); clear hb c0 c1 c2 d0 d1 d2 d3 hz HM; have HM := HN; clear HN; have c0 := HM.out.mb.c0; have c1 := HM.out.mb.c1; have c2 := HM.out.mb.c2; have d0 := HM.out.mb.d0; have d1 := HM.out.mb.d1; have d2 := HM.out.mb.d2; have d3 := HM.out.mb.d3; have hz := HM.out.mb.size) | (go_at_call 59; (with_reducible refine (base_any W H ao n cap Z HG.out q HQ.out _ HM.out.mb.ints).mono ?_); rw [← HMB.out]; rintro e w1 ⟨rfl, hb⟩; have HN := hid (HM.out.stays hb); clear hb c0 c1 c2 d0 d1 d2 d3 hz HM; have HM := HN; clear HN; have c0 := HM.out.mb.c0; have c1 := HM.out.mb.c1; have c2 := HM.out.mb.c2; have d0 := HM.out.mb.d0; have d1 := HM.out.mb.d1; have d2 := HM.out.mb.d2; have d3 := HM.out.mb.d3; have hz := HM.out.mb.size) | (go_at_call 60; (with_reducible refine (rslope_any W H ao n cap Z HG.out p HP.out _ HM.out.mb.ints).mono ?_); rw [← HSA.out]; rintro e w1 ⟨rfl, hb⟩; have HN := hid (HM.out.stays hb); clear hb c0 c1 c2 d0 d1 d2 d3 hz HM; have HM := HN; clear HN; have c0 := HM.out.mb.c0; have c1 := HM.out.mb.c1; have c2 := HM.out.mb.c2; have d0 := HM.out.mb.d0; have d1 := HM.out.mb.d1; have d2 := HM.out.mb.d2; have d3 := HM.out.mb.d3; have hz := HM.out.mb.size) | (go_at_call 60; (with_reducible refine (rslope_any W H ao n cap Z HG.out q HQ.out _ HM.out.mb.ints).mono ?_); rw [← HSB.out]; rintro e w1 ⟨rfl, hb⟩; have HN := hid (HM.out.stays hb); clear hb c0 c1 c2 d0 d1 d2 d3 hz HM; have HM := HN; clear HN; have c0 := HM.out.mb.c0; have c1 := HM.out.mb.c1; have c2 := HM.out.mb.c2; have d0 := HM.out.mb.d0; have d1 := HM.out.mb.d1; have d2 := HM.out.mb.d2; have d3 := HM.out.mb.d3; have hz := HM.out.mb.size))
        go_ret
        exact ⟨ret_int hnl.out.symm, HM.out.mb.below⟩
    · have g1 : (mb == ma) = false := by rw [beq_eq_false_iff_ne]; exact hm
      have g2 : (mb != ma) = true := by simp [hm]
      clear hm h1
      go_enter Try.func30, Try.ntmps30
      go_upto_region 1 with fail
      generalize World.alloc (World.alloc w _) _ = wm at HM ⊢
      have c0 := HM.out.c0; have c1 := HM.out.c1; have c2 := HM.out.c2; have d0 := HM.out.d0; have d1 := HM.out.d1; have d2 := HM.out.d2; have d3 := HM.out.d3; have hz := HM.out.size
      go_wp2_with (first | (go_at_call 46; (with_reducible refine (gap_any W H hW1 hW2 _ 0 u p q hp2 hq2 d HGN.out _).mono ?_); rintro e w1 ⟨rfl, hb⟩; have HN := hid (HM.out.stays hb); clear hb c0 c1 c2 d0 d1 d2 d3 hz HM; have HM := HN; clear HN; have c0 := HM.out.c0; have c1 := HM.out.c1; have c2 := HM.out.c2; have d0 := HM.out.d0; have d1 := HM.out.d1; have d2 := HM.out.d2; have d3 := HM.out.d3; have hz := HM.out.size) | (go_at_call 43; (with_reducible refine (between_to hW1 hW2 ao n cap Z 0 u p q hp2 hq2 HL.out d c HD.out HC.out _ HM.out.ints).mono ?_); rintro e w1 ⟨v, rfl, hrow, hb⟩; obtain ⟨vo, vc, rfl⟩ := row_slice hrow; have HN := hid (EM.mk (HM.out.stays hb) (row_mono hrow HM.out.below.size)); clear hb hrow c0 c1 c2 d0 d1 d2 d3 hz HM; have HM := HN; clear HN; have c0 := HM.out.mb.c0; have c1 := HM.out.mb.c1; have c2 := HM.out.mb.c2; have d0 := HM.out.mb.d0; have d1 := HM.out.mb.d1; have d2 := HM.out.mb.d2; have d3 := HM.out.mb.d3; have hz := HM.out.mb.size) | (go_at_call 59; (with_reducible refine (base_any W H ao n cap Z HG.out p HP.out _ HM.out.mb.ints).mono ?_); rw [← HMA.out]; rintro e w1 ⟨rfl, hb⟩; have HN := hid (HM.out.stays hb); clear hb c0 c1 c2 d0 d1 d2 d3 hz HM; have HM := HN; clear HN; have c0 := HM.out.mb.c0; have c1 := HM.out.mb.c1; have c2 := HM.out.mb.c2; have d0 := HM.out.mb.d0; have d1 := HM.out.mb.d1; have d2 := HM.out.mb.d2; have d3 := HM.out.mb.d3; have hz := HM.out.mb.size) | (go_at_call 59; (with_reducible refine (base_any W H ao n cap Z HG.out q HQ.out _ HM.out.mb.ints).mono ?_); rw [← HMB.out]; rintro e w1 ⟨rfl, hb⟩; have HN := hid (HM.out.stays hb); clear hb c0 c1 c2 d0 d1 d2 d3 hz HM; have HM := HN; clear HN; have c0 := HM.out.mb.c0; have c1 := HM.out.mb.c1; have c2 := HM.out.mb.c2; have d0 := HM.out.mb.d0; have d1 := HM.out.mb.d1; have d2 := HM.out.mb.d2; have d3 := HM.out.mb.d3; have hz := HM.out.mb.size) | (go_at_call 60; (with_reducible refine (rslope_any W H ao n cap Z HG.out p HP.out _ HM.out.mb.ints).mono ?_); rw [← HSA.out]; rintro e w1 ⟨rfl, hb⟩; have HN := hid (HM.out.stays hb); clear hb c0 c1 c2 d0 d1 d2 d3 hz HM; have HM := HN; clear HN; have c0 := HM.out.mb.c0; have c1 := HM.out.mb.c1; have c2 := HM.out.mb.c2; have d0 := HM.out.mb.d0; have d1 := HM.out.mb.d1; have d2 := HM.out.mb.d2; have d3 := HM.out.mb.d3; have hz := HM.out.mb.size) | (go_at_call 60; (with_reducible refine (rslope_any W H ao n cap Z HG.out q HQ.out _ HM.out.mb.ints).mono ?_); rw [← HSB.out]; rintro e w1 ⟨rfl, hb⟩; have HN := hid (HM.out.stays hb); clear hb c0 c1 c2 d0 d1 d2 d3 hz HM; have HM := HN; clear HN; have c0 := HM.out.mb.c0; have c1 := HM.out.mb.c1; have c2 := HM.out.mb.c2; have d0 := HM.out.mb.d0; have d1 := HM.out.mb.d1; have d2 := HM.out.mb.d2; have d3 := HM.out.mb.d3; have hz := HM.out.mb.size))
      go_ret
      exact ⟨ret_int hnl.out.symm, HM.out.mb.below⟩
end Go.Proofs.Ytpohhcmkkjcelaa
