/-
  The walk of Cross of the reference.
-/
import Derived.Test.YtpohhcmkkjcelaaSCrs
namespace Go.Proofs.Ytpohhcmkkjcelaa
open Go.RowKit

set_option maxRecDepth 20000 in
set_option maxHeartbeats 12800000 in
theorem rcross_to (W H : Int) (ao : Option Addr) (n cap : Nat) (Z : Nat → Int) (hn : n ≤ 9223372036854775807) (lo : Option Addr) (m lcap : Nat) (S : Nat → Sp) (hm : m ≤ 300) (t s ot c e : Int) (h : CrossIs W H n Z m S t s ot c e) (w : World) (hI : Ints w ao n Z) (hS : SpansAt w lo m S) :
    Calls Try.prog 23 #[lv W H (.slice ao n cap), .slice lo m lcap, .int .i64 t, .int .i64 s] w fun r w' => r = .returned (.tuple #[.int .i64 ot, .int .i64 c, .int .i64 e]) ∧ Below w.heap.size w w' := by
  have HM := hid (lb_start (W := W) (H := H) (cap := cap) hI)
  have HS := hid hS
  have hm0 : (0 : Int) ≤ (m : Int) := by omega
  clear hI hS
  have hcase : (e ≠ 0 ∧ ot = 0 ∧ c = 0 ∧ LErr W H n Z m S e) ∨ (e = 1 ∧ ot = 0 ∧ c = 0 ∧ LErr W H n Z m S 0 ∧ ¬ (0 ≤ s ∧ s ≤ 3)) ∨ (LErr W H n Z m S 0 ∧ (0 ≤ s ∧ s ≤ 3) ∧ CrossIs W H n Z m S t s ot c e ∧ (e = 2 ∨ e = 0)) := by
    have h' := h
    cases h with
    | list e h0 h => exact .inl ⟨h0, rfl, rfl, h⟩
    | arg h1 h2 => exact .inr (.inl ⟨rfl, rfl, rfl, h1, h2⟩)
    | none h1 h2 h3 => exact .inr (.inr ⟨h1, h2, h', .inl rfl⟩)
    | ok i p q ot h1 h2 h3 h4 h5 h6 h7 => exact .inr (.inr ⟨h1, h2, h', .inr rfl⟩)
  clear h
  rcases hcase with ⟨h0, rfl, rfl, hv⟩ | ⟨rfl, rfl, rfl, hv, hs⟩ | ⟨hv, hs, hc, he⟩
  · have HV := hid hv
    have g : (e != 0) = true := by simpa using h0
    have g2 : (e == 0) = false := by simpa using h0
    clear hv
    go_enter Try.func23, Try.ntmps23
    go_upto_region 1 with fail
    generalize World.alloc w _ = wm at HM ⊢
    have c0 := HM.out.c0; have c1 := HM.out.c1; have c2 := HM.out.c2; have hz := HM.out.size
    go_wp2_with (go_at_call 35; (with_reducible refine (listError_to W H ao n cap Z hn lo m lcap S hm e HV.out _ HM.out.ints (HS.out.stays HM.out.below)).mono ?_); rintro e w1 ⟨rfl, hb⟩; have HN := hid (HM.out.stays hb); clear hb c0 c1 c2 hz HM; have HM := HN; clear HN; have c0 := HM.out.c0; have c1 := HM.out.c1; have c2 := HM.out.c2; have hz := HM.out.size)
    go_ret3
    exact ⟨rfl, HM.out.below⟩
  · have HV := hid hv
    have hs2 : s < 0 ∨ (0 ≤ s ∧ 4 ≤ s) := by omega
    clear hv hs
    rcases hs2 with hs2 | ⟨hs2, hs3⟩
    all_goals
      go_enter Try.func23, Try.ntmps23
      go_upto_region 1 with fail
      generalize World.alloc w _ = wm at HM ⊢
      have c0 := HM.out.c0; have c1 := HM.out.c1; have c2 := HM.out.c2; have hz := HM.out.size
      go_wp2_with (go_at_call 35; (with_reducible refine (listError_to W H ao n cap Z hn lo m lcap S hm 0 HV.out _ HM.out.ints (HS.out.stays HM.out.below)).mono ?_); rintro e w1 ⟨rfl, hb⟩; have HN := hid (HM.out.stays hb); clear hb c0 c1 c2 hz HM; have HM := HN; clear HN; have c0 := HM.out.c0; have c1 := HM.out.c1; have c2 := HM.out.c2; have hz := HM.out.size)
      go_ret3
      exact ⟨rfl, HM.out.below⟩
  · have HV := hid hv
    obtain ⟨W, H, rfl, rfl, hg, ha, hr⟩ := hv.right
    obtain ⟨hW1, hW2, hH1, hH2⟩ := hg.side
    have hms := mul_small hW2 hH2
    have HR := hid hr
    have HF : Hid (∀ i, i < m → (∀ j, j < i → ∀ p q : Nat, (S j).a = p → (S j).b = q → ¬ GoA W p q t s ∧ ¬ GoB W p q t s) → ∀ (p q : Nat) (o : Int), (S i).a = p → (S i).b = q → OutOf W p q t s o → ot = o ∧ c = (cnt (stp W p q) p q : Nat) ∧ e = 0) := hid (fun i hi hj p q o e1 e2 ho => by
      have hsome : GoA W p q t s ∨ GoB W p q t s := by rcases ho with ⟨h, _⟩ | ⟨_, h, _⟩; exact .inl h; exact .inr h
      cases hc with
      | list e h0 h => rcases he with rfl | rfl <;> first | exact absurd rfl h0 | (exact absurd (h.same0 hv) (by decide))
      | arg h1 h2 => exact absurd hs h2
      | none h1 h2 h3 => have := h3 i hi p q e1 e2; rw [Int.toNat_natCast] at this; rcases hsome with h | h; exact absurd h this.1; exact absurd h this.2
      | ok i' p' q' ot' h1 h2 h3 h4 h5 h6 h7 =>
        rw [Int.toNat_natCast] at h6 h7 ⊢
        have hii : i' = i := by
          rcases Nat.lt_trichotomy i' i with h | h | h
          · have := hj i' h p' q' h4 h5
            rcases h6 with ⟨k, _⟩ | ⟨_, k, _⟩
            · exact absurd k this.1
            · exact absurd k this.2
          · exact h
          · have := h7 i h p q e1 e2
            rcases hsome with k | k
            · exact absurd k this.1
            · exact absurd k this.2
        subst hii
        obtain rfl : p' = p := by omega
        obtain rfl : q' = q := by omega
        refine ⟨?_, rfl, rfl⟩
        rcases h6 with ⟨k1, k2⟩ | ⟨k1, k2, k3⟩ <;> rcases ho with ⟨l1, l2⟩ | ⟨l1, l2, l3⟩ <;> first | omega | exact absurd k1 l1 | exact absurd l1 k1)
    have HZ : Hid ((∀ j, j < m → ∀ p q : Nat, (S j).a = p → (S j).b = q → ¬ GoA W p q t s ∧ ¬ GoB W p q t s) → ot = 0 ∧ c = 0 ∧ e = 2) := hid (fun hj => by
      cases hc with
      | list e h0 h => rcases he with rfl | rfl <;> first | exact absurd rfl h0 | (exact absurd (h.same0 hv) (by decide))
      | arg h1 h2 => exact absurd hs h2
      | none h1 h2 h3 => exact ⟨rfl, rfl, rfl⟩
      | ok i' p' q' ot' h1 h2 h3 h4 h5 h6 h7 =>
        rw [Int.toNat_natCast] at h6
        have := hj i' h3 p' q' h4 h5
        rcases h6 with ⟨k, _⟩ | ⟨_, k, _⟩
        · exact absurd k this.1
        · exact absurd k this.2)
    obtain ⟨hs1, hs2⟩ := hs
    have hs3 : s < 4 := by omega
    clear hv hg ha hr hc
    go_enter Try.func23, Try.ntmps23
    go_upto_region 1 with fail
    generalize World.alloc w _ = wm at HM ⊢
    have c0 := HM.out.c0; have c1 := HM.out.c1; have c2 := HM.out.c2; have hz := HM.out.size
    go_upto_region 6 with (go_at_call 35; (with_reducible refine (listError_to W H ao n cap Z hn lo m lcap S hm 0 HV.out _ HM.out.ints (HS.out.stays HM.out.below)).mono ?_); rintro e w1 ⟨rfl, hb⟩; have HN := hid (HM.out.stays hb); clear hb c0 c1 c2 hz HM; have HM := HN; clear HN; have c0 := HM.out.c0; have c1 := HM.out.c1; have c2 := HM.out.c2; have hz := HM.out.size)
    have HN := hid HM.out
    clear c0 c1 c2 hz HM he
    go_wp2_with fail
    go_loopw [12] (fun iv wr => ∃ i : Nat, i ≤ m ∧ iv = .int .i64 i ∧ Hid (∀ j, j < i → ∀ p q : Nat, (S j).a = p → (S j).b = q → ¬ GoA W p q t s ∧ ¬ GoB W p q t s) ∧ Hid (LB W H ao n cap Z w wr)) (fun iv _ => m - (intOf iv).toNat)
    case atStart => exact ⟨0, Nat.zero_le _, rfl, hid (fun j hj => by omega), HN⟩
    case round =>
      obtain ⟨i, hi, rfl, hk, hB⟩ := hrel
      clear HN
      by_cases hlt : i < m
      · obtain ⟨bl, off, rfl, hbz, q0, q1, q2, q3⟩ := (HS.out.stays hB.out.below) i hlt
        obtain ⟨p, q, e1, e2, hrt⟩ := (HR.out i hlt).right
        obtain ⟨k, hkk⟩ : ∃ k, k = (S i).k := ⟨_, rfl⟩
        obtain ⟨u, hu⟩ : ∃ u, u = (S i).u := ⟨_, rfl⟩
        rw [e1] at q1
        rw [e2] at q2
        rw [← hkk] at q0
        rw [← hu] at q3
        have HE := hid (And.intro e1 e2)
        have hp2 : p ≤ 1024 := by have := hrt.ha; omega
        have hq2 : q ≤ 1024 := by have := hrt.hb; omega
        have HL := hid hrt.line
        have hi0 : (0 : Int) ≤ (i : Int) := by omega
        have hi1 : (i : Int) < (m : Int) := by omega
        clear e1 e2 hkk hu hrt
        go_upto_region 10 with fail
        have HB9 := hid (CM.mk (hB.out.stays (Joins.below_alloc1 wr (.cells #[.int .i64 k, .int .i64 p, .int .i64 q, .int .i64 u] 26))) (World.alloc_heap_new wr _))
        generalize World.alloc wr _ = wq at HB9 ⊢
        generalize wr.heap.size = g at HB9 ⊢
        obtain ⟨_, c0, c1, c2, b0, b1, b2, b3⟩ := cm_keep (And.intro HB9.out trivial) (Below.refl _ _)
        have hz := HB9.out.lb.size
        have hgz := heap_lt HB9.out.hg
        clear q0 q1 q2 q3 hbz
        obtain ⟨d, hd⟩ : ∃ d, d = stp W p q := ⟨_, rfl⟩
        obtain ⟨cc, hcc⟩ : ∃ c, c = cnt d p q := ⟨_, rfl⟩
        have HD := hid hd
        have HCN := hid hcc
        have HGN : Hid (d = gapN W p q) := hid (by rw [gap_stp HL.out.2]; exact hd)
        have hsp := stp_pos (W := W) (a := p) (b := q) hW1
        rw [← hd] at hsp
        clear hcc hd
        by_cases hir : InRow W p q
        · have gd : ((d : Int) == 1) = true := by rw [HGN.out, gap_stp HL.out.2, stp_row hir]; rfl
          have HA : Hid (GoA W p q t s ↔ (t = p ∧ s = 0)) := hid (by unfold GoA dirA; rw [if_pos hir])
          have HB : Hid (GoB W p q t s ↔ (t = q ∧ s = 2)) := hid (by unfold GoB dirB; rw [if_pos hir])
          clear hir hsp
          have hcs : (t = p ∧ s = 0) ∨ (t ≠ p ∧ t = q ∧ s = 2) ∨ (t = p ∧ s ≠ 0 ∧ t = q ∧ s = 2) ∨ ((t ≠ p ∧ (t ≠ q ∨ s ≠ 2)) ∨ (t = p ∧ s ≠ 0 ∧ (t ≠ q ∨ s ≠ 2))) := by omega
          rcases hcs with ⟨h1, h2⟩ | ⟨h1, h2, h3⟩ | ⟨h1, h2, h3, h4⟩ | hno
          · have HX := hid (HF.out i hlt hk.out p q q HE.out.1 HE.out.2 (.inl ⟨HA.out.2 ⟨h1, h2⟩, rfl⟩))
            have g1 : ((p : Int) == t) = true := by rw [beq_iff_eq]; exact h1.symm
            subst h2
            clear h1
            go_upto_region 12 with (go_at_call 46; (with_reducible refine (gap_any W H hW1 hW2 _ k u p q hp2 hq2 d HGN.out _).mono ?_); rintro e w1 ⟨rfl, hb⟩; have HN9 := hid (HB9.out.stays hb); clear hb c0 c1 c2 b0 b1 b2 b3 hz hgz HB9; have HB9 := HN9; clear HN9; obtain ⟨_, c0, c1, c2, b0, b1, b2, b3⟩ := cm_keep (And.intro HB9.out trivial) (Below.refl _ _); have hz := HB9.out.lb.size; have hgz := heap_lt HB9.out.hg)
            refine wp_region_held_drew (S := (fun wr => CM W H ao n cap Z g k p q u w wr ∧ wr.cell? ⟨w.heap.size, 0, none⟩ = some (.int .i64 W) ∧ wr.cell? ⟨w.heap.size, 1, none⟩ = some (.int .i64 H) ∧ wr.cell? ⟨w.heap.size, 2, none⟩ = some (.slice ao n cap) ∧ wr.cell? ⟨g, 0, none⟩ = some (.int .i64 k) ∧ wr.cell? ⟨g, 1, none⟩ = some (.int .i64 p) ∧ wr.cell? ⟨g, 2, none⟩ = some (.int .i64 q) ∧ wr.cell? ⟨g, 3, none⟩ = some (.int .i64 u))) (by kernel_rfl) (cm_keep (And.intro HB9.out trivial) ((Below.refl _ _).drew)) (fun hHeld => ?_)
            refine wpAnyH_take (i := 0) (oi := { dst := some 60, op := Op.fieldAddr 26 (Operand.tmp 13) 2, type := 0, pos := "ref.go:249", after := #[], guard := none }) (v := ?_) rfl (by kernel_rfl) (by kernel_rfl) (by kernel_rfl) (fun _ _ _ h => h) (Or.inl ⟨by rfl, ?_⟩) (by assumption) ?_
            rotate_left
            · intro w hSw; (try dsimp only at hSw); go_simp; try (with_reducible rfl)
            try simp only [Act.put, List.setIfInBounds_toArray, List.set_cons_zero, List.set_cons_succ]
            refine wpAnyH_take (i := 1) (oi := { dst := some 61, op := Op.load 3 (Operand.tmp 60), type := 3, pos := "ref.go:249", after := #[{ on := 0, ground := Ground.data }], guard := none }) (v := ?_) rfl (by kernel_rfl) (by kernel_rfl) (by kernel_rfl) (fun _ _ _ h => h) (Or.inl ⟨by rfl, ?_⟩) (by assumption) ?_
            rotate_left
            · intro w hSw; (try dsimp only at hSw); go_simp; try (with_reducible rfl)
            try simp only [Act.put, List.setIfInBounds_toArray, List.set_cons_zero, List.set_cons_succ]
            refine wpAnyH_take (i := 2) (oi := { dst := some 62, op := Op.load 24 (Operand.tmp 4), type := 24, pos := "ref.go:249", after := #[], guard := none }) (v := ?_) rfl (by kernel_rfl) (by kernel_rfl) (by kernel_rfl) (fun _ _ _ h => h) (Or.inl ⟨by rfl, ?_⟩) (by assumption) ?_
            rotate_left
            · intro w hSw; (try dsimp only at hSw); go_simp; try (with_reducible rfl)
            try simp only [Act.put, List.setIfInBounds_toArray, List.set_cons_zero, List.set_cons_succ]
            refine wpAnyH_take (i := 3) (oi := { dst := some 63, op := Op.load 26 (Operand.tmp 13), type := 26, pos := "ref.go:249", after := #[], guard := none }) (v := ?_) rfl (by kernel_rfl) (by kernel_rfl) (by kernel_rfl) (fun _ _ _ h => h) (Or.inl ⟨by rfl, ?_⟩) (by assumption) ?_
            rotate_left
            · intro w hSw; (try dsimp only at hSw); go_simp; try (with_reducible rfl)
            try simp only [Act.put, List.setIfInBounds_toArray, List.set_cons_zero, List.set_cons_succ]
            refine wpAnyH_ready (rs := [4]) (by kernel_rfl) (by simp) ?_
            refine AllReadyH.cons (o := { dst := some 64, op := Op.call { callee := Callee.value (Operand.func 43), args := #[Operand.tmp 62, Operand.tmp 63], argTypes := #[24, 26] }, type := 22, pos := "ref.go:249", after := #[{ on := 2, ground := Ground.data }, { on := 3, ground := Ground.data }], guard := none }) rfl (fun K hK => ?_) AllReadyH.nil
            go_simp
            refine (between_to hW1 hW2 ao n cap Z k u p q hp2 hq2 HL.out d cc HD.out HCN.out _ (cm_ints (by assumption))).mono ?_
            rintro r w' ⟨v, rfl, hrow, hb⟩
            obtain ⟨vo, vc, rfl⟩ := row_slice hrow
            clear hrow
            try go_wp2_with fail
            refine hK.out _ _ (cm_keep (by assumption) hb) (fun hHeld2 => ?_)
            clear hK K
            try simp only [Act.put, List.setIfInBounds_toArray, List.set_cons_zero, List.set_cons_succ]
            refine wpAnyH_take (i := 5) (oi := { dst := some 65, op := Op.call { callee := Callee.builtin Builtin.len, args := #[Operand.tmp 64], argTypes := #[22] }, type := 3, pos := "ref.go:249", after := #[{ on := 4, ground := Ground.data }], guard := none }) (v := ?_) rfl (by kernel_rfl) (by kernel_rfl) (by kernel_rfl) (fun _ _ _ h => h) (Or.inl ⟨by rfl, ?_⟩) (by assumption) ?_
            rotate_left
            · intro w hSw; (try dsimp only at hSw); go_simp; try (with_reducible rfl)
            try simp only [Act.put, List.setIfInBounds_toArray, List.set_cons_zero, List.set_cons_succ]
            refine wpAnyH_take (i := 6) (oi := { dst := some 8, op := Op.assign (Operand.tmp 61), type := 3, pos := "ref.go:249", after := #[{ on := 1, ground := Ground.data }, { on := 4, ground := Ground.chain }, { on := 0, ground := Ground.phase }, { on := 1, ground := Ground.phase }, { on := 2, ground := Ground.textOnly Departure.lateStores }, { on := 3, ground := Ground.textOnly Departure.lateStores }, { on := 4, ground := Ground.textOnly Departure.lateStoresUnsure }, { on := 5, ground := Ground.textOnly Departure.lateStoresUnsure }], guard := none }) (v := ?_) rfl (by kernel_rfl) (by kernel_rfl) (by kernel_rfl) (fun _ _ _ h => h) (Or.inl ⟨by rfl, ?_⟩) (by assumption) ?_
            rotate_left
            · intro w hSw; (try dsimp only at hSw); go_simp; try (with_reducible rfl)
            try simp only [Act.put, List.setIfInBounds_toArray, List.set_cons_zero, List.set_cons_succ]
            refine wpAnyH_take (i := 7) (oi := { dst := some 9, op := Op.assign (Operand.tmp 65), type := 3, pos := "ref.go:249", after := #[{ on := 5, ground := Ground.data }, { on := 6, ground := Ground.chain }, { on := 0, ground := Ground.phase }, { on := 1, ground := Ground.phase }, { on := 2, ground := Ground.phase }, { on := 3, ground := Ground.phase }, { on := 4, ground := Ground.phase }, { on := 5, ground := Ground.phase }, { on := 6, ground := Ground.phase }], guard := none }) (v := ?_) rfl (by kernel_rfl) (by kernel_rfl) (by kernel_rfl) (fun _ _ _ h => h) (Or.inl ⟨by rfl, ?_⟩) (by assumption) ?_
            rotate_left
            · intro w hSw; (try dsimp only at hSw); go_simp; try (with_reducible rfl)
            try simp only [Act.put, List.setIfInBounds_toArray, List.set_cons_zero, List.set_cons_succ]
            refine wpAnyH_take (i := 8) (oi := { dst := some 10, op := Op.assign (Operand.const (Value.int IntKind.i64 0)), type := 29, pos := "ref.go:249", after := #[{ on := 7, ground := Ground.chain }, { on := 0, ground := Ground.phase }, { on := 1, ground := Ground.phase }, { on := 2, ground := Ground.phase }, { on := 3, ground := Ground.phase }, { on := 4, ground := Ground.phase }, { on := 5, ground := Ground.phase }, { on := 6, ground := Ground.phase }, { on := 7, ground := Ground.phase }], guard := none }) (v := ?_) rfl (by kernel_rfl) (by kernel_rfl) (by kernel_rfl) (fun _ _ _ h => h) (Or.inl ⟨by rfl, ?_⟩) (by assumption) ?_
            rotate_left
            · intro w hSw; (try dsimp only at hSw); go_simp; try (with_reducible rfl)
            try simp only [Act.put, List.setIfInBounds_toArray, List.set_cons_zero, List.set_cons_succ]
            refine wpAnyH_done (by kernel_rfl) ?_ _
            have HF9 := hid (cm_below (by assumption))
            go_wp2_with fail
            go_ret3
            exact ⟨by rw [HX.out.1, HX.out.2.1, HX.out.2.2, ← HD.out, ← HCN.out]; rfl, HF9.out⟩
          · have HX := hid (HF.out i hlt hk.out p q p HE.out.1 HE.out.2 (.inr ⟨fun h => h1 (HA.out.1 h).1, HB.out.2 ⟨h2, h3⟩, rfl⟩))
            have g1 : ((p : Int) == t) = false := by rw [beq_eq_false_iff_ne]; exact fun h => h1 h.symm
            have g2 : ((q : Int) == t) = true := by rw [beq_iff_eq]; exact h2.symm
            subst h3
            clear h1 h2
            go_upto_region 14 with (go_at_call 46; (with_reducible refine (gap_any W H hW1 hW2 _ k u p q hp2 hq2 d HGN.out _).mono ?_); rintro e w1 ⟨rfl, hb⟩; have HN9 := hid (HB9.out.stays hb); clear hb c0 c1 c2 b0 b1 b2 b3 hz hgz HB9; have HB9 := HN9; clear HN9; obtain ⟨_, c0, c1, c2, b0, b1, b2, b3⟩ := cm_keep (And.intro HB9.out trivial) (Below.refl _ _); have hz := HB9.out.lb.size; have hgz := heap_lt HB9.out.hg)
            refine wp_region_held_drew (S := (fun wr => CM W H ao n cap Z g k p q u w wr ∧ wr.cell? ⟨w.heap.size, 0, none⟩ = some (.int .i64 W) ∧ wr.cell? ⟨w.heap.size, 1, none⟩ = some (.int .i64 H) ∧ wr.cell? ⟨w.heap.size, 2, none⟩ = some (.slice ao n cap) ∧ wr.cell? ⟨g, 0, none⟩ = some (.int .i64 k) ∧ wr.cell? ⟨g, 1, none⟩ = some (.int .i64 p) ∧ wr.cell? ⟨g, 2, none⟩ = some (.int .i64 q) ∧ wr.cell? ⟨g, 3, none⟩ = some (.int .i64 u))) (by kernel_rfl) (cm_keep (And.intro HB9.out trivial) ((Below.refl _ _).drew)) (fun hHeld => ?_)
            refine wpAnyH_take (i := 0) (oi := { dst := some 85, op := Op.fieldAddr 26 (Operand.tmp 13) 1, type := 0, pos := "ref.go:252", after := #[], guard := none }) (v := ?_) rfl (by kernel_rfl) (by kernel_rfl) (by kernel_rfl) (fun _ _ _ h => h) (Or.inl ⟨by rfl, ?_⟩) (by assumption) ?_
            rotate_left
            · intro w hSw; (try dsimp only at hSw); go_simp; try (with_reducible rfl)
            try simp only [Act.put, List.setIfInBounds_toArray, List.set_cons_zero, List.set_cons_succ]
            refine wpAnyH_take (i := 1) (oi := { dst := some 86, op := Op.load 3 (Operand.tmp 85), type := 3, pos := "ref.go:252", after := #[{ on := 0, ground := Ground.data }], guard := none }) (v := ?_) rfl (by kernel_rfl) (by kernel_rfl) (by kernel_rfl) (fun _ _ _ h => h) (Or.inl ⟨by rfl, ?_⟩) (by assumption) ?_
            rotate_left
            · intro w hSw; (try dsimp only at hSw); go_simp; try (with_reducible rfl)
            try simp only [Act.put, List.setIfInBounds_toArray, List.set_cons_zero, List.set_cons_succ]
            refine wpAnyH_take (i := 2) (oi := { dst := some 87, op := Op.load 24 (Operand.tmp 4), type := 24, pos := "ref.go:252", after := #[], guard := none }) (v := ?_) rfl (by kernel_rfl) (by kernel_rfl) (by kernel_rfl) (fun _ _ _ h => h) (Or.inl ⟨by rfl, ?_⟩) (by assumption) ?_
            rotate_left
            · intro w hSw; (try dsimp only at hSw); go_simp; try (with_reducible rfl)
            try simp only [Act.put, List.setIfInBounds_toArray, List.set_cons_zero, List.set_cons_succ]
            refine wpAnyH_take (i := 3) (oi := { dst := some 88, op := Op.load 26 (Operand.tmp 13), type := 26, pos := "ref.go:252", after := #[], guard := none }) (v := ?_) rfl (by kernel_rfl) (by kernel_rfl) (by kernel_rfl) (fun _ _ _ h => h) (Or.inl ⟨by rfl, ?_⟩) (by assumption) ?_
            rotate_left
            · intro w hSw; (try dsimp only at hSw); go_simp; try (with_reducible rfl)
            try simp only [Act.put, List.setIfInBounds_toArray, List.set_cons_zero, List.set_cons_succ]
            refine wpAnyH_ready (rs := [4]) (by kernel_rfl) (by simp) ?_
            refine AllReadyH.cons (o := { dst := some 89, op := Op.call { callee := Callee.value (Operand.func 43), args := #[Operand.tmp 87, Operand.tmp 88], argTypes := #[24, 26] }, type := 22, pos := "ref.go:252", after := #[{ on := 2, ground := Ground.data }, { on := 3, ground := Ground.data }], guard := none }) rfl (fun K hK => ?_) AllReadyH.nil
            go_simp
            refine (between_to hW1 hW2 ao n cap Z k u p q hp2 hq2 HL.out d cc HD.out HCN.out _ (cm_ints (by assumption))).mono ?_
            rintro r w' ⟨v, rfl, hrow, hb⟩
            obtain ⟨vo, vc, rfl⟩ := row_slice hrow
            clear hrow
            try go_wp2_with fail
            refine hK.out _ _ (cm_keep (by assumption) hb) (fun hHeld2 => ?_)
            clear hK K
            try simp only [Act.put, List.setIfInBounds_toArray, List.set_cons_zero, List.set_cons_succ]
            refine wpAnyH_take (i := 5) (oi := { dst := some 90, op := Op.call { callee := Callee.builtin Builtin.len, args := #[Operand.tmp 89], argTypes := #[22] }, type := 3, pos := "ref.go:252", after := #[{ on := 4, ground := Ground.data }], guard := none }) (v := ?_) rfl (by kernel_rfl) (by kernel_rfl) (by kernel_rfl) (fun _ _ _ h => h) (Or.inl ⟨by rfl, ?_⟩) (by assumption) ?_
            rotate_left
            · intro w hSw; (try dsimp only at hSw); go_simp; try (with_reducible rfl)
            try simp only [Act.put, List.setIfInBounds_toArray, List.set_cons_zero, List.set_cons_succ]
            refine wpAnyH_take (i := 6) (oi := { dst := some 8, op := Op.assign (Operand.tmp 86), type := 3, pos := "ref.go:252", after := #[{ on := 1, ground := Ground.data }, { on := 4, ground := Ground.chain }, { on := 0, ground := Ground.phase }, { on := 1, ground := Ground.phase }, { on := 2, ground := Ground.textOnly Departure.lateStores }, { on := 3, ground := Ground.textOnly Departure.lateStores }, { on := 4, ground := Ground.textOnly Departure.lateStoresUnsure }, { on := 5, ground := Ground.textOnly Departure.lateStoresUnsure }], guard := none }) (v := ?_) rfl (by kernel_rfl) (by kernel_rfl) (by kernel_rfl) (fun _ _ _ h => h) (Or.inl ⟨by rfl, ?_⟩) (by assumption) ?_
            rotate_left
            · intro w hSw; (try dsimp only at hSw); go_simp; try (with_reducible rfl)
            try simp only [Act.put, List.setIfInBounds_toArray, List.set_cons_zero, List.set_cons_succ]
            refine wpAnyH_take (i := 7) (oi := { dst := some 9, op := Op.assign (Operand.tmp 90), type := 3, pos := "ref.go:252", after := #[{ on := 5, ground := Ground.data }, { on := 6, ground := Ground.chain }, { on := 0, ground := Ground.phase }, { on := 1, ground := Ground.phase }, { on := 2, ground := Ground.phase }, { on := 3, ground := Ground.phase }, { on := 4, ground := Ground.phase }, { on := 5, ground := Ground.phase }, { on := 6, ground := Ground.phase }], guard := none }) (v := ?_) rfl (by kernel_rfl) (by kernel_rfl) (by kernel_rfl) (fun _ _ _ h => h) (Or.inl ⟨by rfl, ?_⟩) (by assumption) ?_
            rotate_left
            · intro w hSw; (try dsimp only at hSw); go_simp; try (with_reducible rfl)
            try simp only [Act.put, List.setIfInBounds_toArray, List.set_cons_zero, List.set_cons_succ]
            refine wpAnyH_take (i := 8) (oi := { dst := some 10, op := Op.assign (Operand.const (Value.int IntKind.i64 0)), type := 29, pos := "ref.go:252", after := #[{ on := 7, ground := Ground.chain }, { on := 0, ground := Ground.phase }, { on := 1, ground := Ground.phase }, { on := 2, ground := Ground.phase }, { on := 3, ground := Ground.phase }, { on := 4, ground := Ground.phase }, { on := 5, ground := Ground.phase }, { on := 6, ground := Ground.phase }, { on := 7, ground := Ground.phase }], guard := none }) (v := ?_) rfl (by kernel_rfl) (by kernel_rfl) (by kernel_rfl) (fun _ _ _ h => h) (Or.inl ⟨by rfl, ?_⟩) (by assumption) ?_
            rotate_left
            · intro w hSw; (try dsimp only at hSw); go_simp; try (with_reducible rfl)
            try simp only [Act.put, List.setIfInBounds_toArray, List.set_cons_zero, List.set_cons_succ]
            refine wpAnyH_done (by kernel_rfl) ?_ _
            have HF9 := hid (cm_below (by assumption))
            go_wp2_with fail
            go_ret3
            exact ⟨by rw [HX.out.1, HX.out.2.1, HX.out.2.2, ← HD.out, ← HCN.out]; rfl, HF9.out⟩
          · exact absurd HL.out.1 (by omega)
          · have HO : Hid (¬ GoA W p q t s ∧ ¬ GoB W p q t s) := hid (by rw [HA.out, HB.out]; omega)
            have hno2 : ((((p : Int) == t) = false ∧ ((q : Int) == t) = false) ∨ (((p : Int) == t) = false ∧ ((q : Int) == t) = true ∧ (s == 2) = false)) ∨ ((((p : Int) == t) = true ∧ (s == 0) = false) ∧ ((q : Int) == t) = false) := by
              have hpq := HL.out.1
              simp only [beq_eq_false_iff_ne, beq_iff_eq]
              omega
            clear hno
            rcases hno2 with (⟨g1, g2⟩ | ⟨g1, g2, g3⟩) | ⟨⟨g1, g2⟩, g3⟩
            all_goals
              go_wp2_with (go_at_call 46; (with_reducible refine (gap_any W H hW1 hW2 _ k u p q hp2 hq2 d HGN.out _).mono ?_); rintro e w1 ⟨rfl, hb⟩; have HN9 := hid (HB9.out.stays hb); clear hb c0 c1 c2 b0 b1 b2 b3 hz hgz HB9; have HB9 := HN9; clear HN9; obtain ⟨_, c0, c1, c2, b0, b1, b2, b3⟩ := cm_keep (And.intro HB9.out trivial) (Below.refl _ _); have hz := HB9.out.lb.size; have hgz := heap_lt HB9.out.hg)
              have HL9 := hid HB9.out.lb
              clear c0 c1 c2 b0 b1 b2 b3 hz hgz HB9 hB
              go_roundw
              case rel =>
                refine ⟨i + 1, by omega, by go_num, hid (fun j hj p' q' e1 e2 => ?_), HL9⟩
                by_cases h : j < i
                · exact hk.out j h p' q' e1 e2
                · obtain rfl : j = i := by omega
                  obtain rfl : p' = p := by have := HE.out.1; omega
                  obtain rfl : q' = q := by have := HE.out.2; omega
                  exact HO.out
              case measure => simp [intOf]; omega
        · have gd : ((d : Int) == 1) = false := by rw [HGN.out, gap_stp HL.out.2, stp_col hir, beq_eq_false_iff_ne]; omega
          have HA : Hid (GoA W p q t s ↔ (t = p ∧ s = 1)) := hid (by unfold GoA dirA; rw [if_neg hir])
          have HB : Hid (GoB W p q t s ↔ (t = q ∧ s = 3)) := hid (by unfold GoB dirB; rw [if_neg hir])
          clear hir hsp
          have hcs : (t = p ∧ s = 1) ∨ (t ≠ p ∧ t = q ∧ s = 3) ∨ (t = p ∧ s ≠ 1 ∧ t = q ∧ s = 3) ∨ ((t ≠ p ∧ (t ≠ q ∨ s ≠ 3)) ∨ (t = p ∧ s ≠ 1 ∧ (t ≠ q ∨ s ≠ 3))) := by omega
          rcases hcs with ⟨h1, h2⟩ | ⟨h1, h2, h3⟩ | ⟨h1, h2, h3, h4⟩ | hno
          · have HX := hid (HF.out i hlt hk.out p q q HE.out.1 HE.out.2 (.inl ⟨HA.out.2 ⟨h1, h2⟩, rfl⟩))
            have g1 : ((p : Int) == t) = true := by rw [beq_iff_eq]; exact h1.symm
            subst h2
            clear h1
            go_upto_region 12 with (go_at_call 46; (with_reducible refine (gap_any W H hW1 hW2 _ k u p q hp2 hq2 d HGN.out _).mono ?_); rintro e w1 ⟨rfl, hb⟩; have HN9 := hid (HB9.out.stays hb); clear hb c0 c1 c2 b0 b1 b2 b3 hz hgz HB9; have HB9 := HN9; clear HN9; obtain ⟨_, c0, c1, c2, b0, b1, b2, b3⟩ := cm_keep (And.intro HB9.out trivial) (Below.refl _ _); have hz := HB9.out.lb.size; have hgz := heap_lt HB9.out.hg)
            refine wp_region_held_drew (S := (fun wr => CM W H ao n cap Z g k p q u w wr ∧ wr.cell? ⟨w.heap.size, 0, none⟩ = some (.int .i64 W) ∧ wr.cell? ⟨w.heap.size, 1, none⟩ = some (.int .i64 H) ∧ wr.cell? ⟨w.heap.size, 2, none⟩ = some (.slice ao n cap) ∧ wr.cell? ⟨g, 0, none⟩ = some (.int .i64 k) ∧ wr.cell? ⟨g, 1, none⟩ = some (.int .i64 p) ∧ wr.cell? ⟨g, 2, none⟩ = some (.int .i64 q) ∧ wr.cell? ⟨g, 3, none⟩ = some (.int .i64 u))) (by kernel_rfl) (cm_keep (And.intro HB9.out trivial) ((Below.refl _ _).drew)) (fun hHeld => ?_)
            refine wpAnyH_take (i := 0) (oi := { dst := some 60, op := Op.fieldAddr 26 (Operand.tmp 13) 2, type := 0, pos := "ref.go:249", after := #[], guard := none }) (v := ?_) rfl (by kernel_rfl) (by kernel_rfl) (by kernel_rfl) (fun _ _ _ h => h) (Or.inl ⟨by rfl, ?_⟩) (by assumption) ?_
            rotate_left
            · intro w hSw; (try dsimp only at hSw); go_simp; try (with_reducible rfl)
            try simp only [Act.put, List.setIfInBounds_toArray, List.set_cons_zero, List.set_cons_succ]
            refine wpAnyH_take (i := 1) (oi := { dst := some 61, op := Op.load 3 (Operand.tmp 60), type := 3, pos := "ref.go:249", after := #[{ on := 0, ground := Ground.data }], guard := none }) (v := ?_) rfl (by kernel_rfl) (by kernel_rfl) (by kernel_rfl) (fun _ _ _ h => h) (Or.inl ⟨by rfl, ?_⟩) (by assumption) ?_
            rotate_left
            · intro w hSw; (try dsimp only at hSw); go_simp; try (with_reducible rfl)
            try simp only [Act.put, List.setIfInBounds_toArray, List.set_cons_zero, List.set_cons_succ]
            refine wpAnyH_take (i := 2) (oi := { dst := some 62, op := Op.load 24 (Operand.tmp 4), type := 24, pos := "ref.go:249", after := #[], guard := none }) (v := ?_) rfl (by kernel_rfl) (by kernel_rfl) (by kernel_rfl) (fun _ _ _ h => h) (Or.inl ⟨by rfl, ?_⟩) (by assumption) ?_
            rotate_left
            · intro w hSw; (try dsimp only at hSw); go_simp; try (with_reducible rfl)
            try simp only [Act.put, List.setIfInBounds_toArray, List.set_cons_zero, List.set_cons_succ]
            refine wpAnyH_take (i := 3) (oi := { dst := some 63, op := Op.load 26 (Operand.tmp 13), type := 26, pos := "ref.go:249", after := #[], guard := none }) (v := ?_) rfl (by kernel_rfl) (by kernel_rfl) (by kernel_rfl) (fun _ _ _ h => h) (Or.inl ⟨by rfl, ?_⟩) (by assumption) ?_
            rotate_left
            · intro w hSw; (try dsimp only at hSw); go_simp; try (with_reducible rfl)
            try simp only [Act.put, List.setIfInBounds_toArray, List.set_cons_zero, List.set_cons_succ]
            refine wpAnyH_ready (rs := [4]) (by kernel_rfl) (by simp) ?_
            refine AllReadyH.cons (o := { dst := some 64, op := Op.call { callee := Callee.value (Operand.func 43), args := #[Operand.tmp 62, Operand.tmp 63], argTypes := #[24, 26] }, type := 22, pos := "ref.go:249", after := #[{ on := 2, ground := Ground.data }, { on := 3, ground := Ground.data }], guard := none }) rfl (fun K hK => ?_) AllReadyH.nil
            go_simp
            refine (between_to hW1 hW2 ao n cap Z k u p q hp2 hq2 HL.out d cc HD.out HCN.out _ (cm_ints (by assumption))).mono ?_
            rintro r w' ⟨v, rfl, hrow, hb⟩
            obtain ⟨vo, vc, rfl⟩ := row_slice hrow
            clear hrow
            try go_wp2_with fail
            refine hK.out _ _ (cm_keep (by assumption) hb) (fun hHeld2 => ?_)
            clear hK K
            try simp only [Act.put, List.setIfInBounds_toArray, List.set_cons_zero, List.set_cons_succ]
            refine wpAnyH_take (i := 5) (oi := { dst := some 65, op := Op.call { callee := Callee.builtin Builtin.len, args := #[Operand.tmp 64], argTypes := #[22] }, type := 3, pos := "ref.go:249", after := #[{ on := 4, ground := Ground.data }], guard := none }) (v := ?_) rfl (by kernel_rfl) (by kernel_rfl) (by kernel_rfl) (fun _ _ _ h => h) (Or.inl ⟨by rfl, ?_⟩) (by assumption) ?_
            rotate_left
            · intro w hSw; (try dsimp only at hSw); go_simp; try (with_reducible rfl)
            try simp only [Act.put, List.setIfInBounds_toArray, List.set_cons_zero, List.set_cons_succ]
            refine wpAnyH_take (i := 6) (oi := { dst := some 8, op := Op.assign (Operand.tmp 61), type := 3, pos := "ref.go:249", after := #[{ on := 1, ground := Ground.data }, { on := 4, ground := Ground.chain }, { on := 0, ground := Ground.phase }, { on := 1, ground := Ground.phase }, { on := 2, ground := Ground.textOnly Departure.lateStores }, { on := 3, ground := Ground.textOnly Departure.lateStores }, { on := 4, ground := Ground.textOnly Departure.lateStoresUnsure }, { on := 5, ground := Ground.textOnly Departure.lateStoresUnsure }], guard := none }) (v := ?_) rfl (by kernel_rfl) (by kernel_rfl) (by kernel_rfl) (fun _ _ _ h => h) (Or.inl ⟨by rfl, ?_⟩) (by assumption) ?_
            rotate_left
            · intro w hSw; (try dsimp only at hSw); go_simp; try (with_reducible rfl)
            try simp only [Act.put, List.setIfInBounds_toArray, List.set_cons_zero, List.set_cons_succ]
            refine wpAnyH_take (i := 7) (oi := { dst := some 9, op := Op.assign (Operand.tmp 65), type := 3, pos := "ref.go:249", after := #[{ on := 5, ground := Ground.data }, { on := 6, ground := Ground.chain }, { on := 0, ground := Ground.phase }, { on := 1, ground := Ground.phase }, { on := 2, ground := Ground.phase }, { on := 3, ground := Ground.phase }, { on := 4, ground := Ground.phase }, { on := 5, ground := Ground.phase }, { on := 6, ground := Ground.phase }], guard := none }) (v := ?_) rfl (by kernel_rfl) (by kernel_rfl) (by kernel_rfl) (fun _ _ _ h => h) (Or.inl ⟨by rfl, ?_⟩) (by assumption) ?_
            rotate_left
            · intro w hSw; (try dsimp only at hSw); go_simp; try (with_reducible rfl)
            try simp only [Act.put, List.setIfInBounds_toArray, List.set_cons_zero, List.set_cons_succ]
            refine wpAnyH_take (i := 8) (oi := { dst := some 10, op := Op.assign (Operand.const (Value.int IntKind.i64 0)), type := 29, pos := "ref.go:249", after := #[{ on := 7, ground := Ground.chain }, { on := 0, ground := Ground.phase }, { on := 1, ground := Ground.phase }, { on := 2, ground := Ground.phase }, { on := 3, ground := Ground.phase }, { on := 4, ground := Ground.phase }, { on := 5, ground := Ground.phase }, { on := 6, ground := Ground.phase }, { on := 7, ground := Ground.phase }], guard := none }) (v := ?_) rfl (by kernel_rfl) (by kernel_rfl) (by kernel_rfl) (fun _ _ _ h => h) (Or.inl ⟨by rfl, ?_⟩) (by assumption) ?_
            rotate_left
            · intro w hSw; (try dsimp only at hSw); go_simp; try (with_reducible rfl)
            try simp only [Act.put, List.setIfInBounds_toArray, List.set_cons_zero, List.set_cons_succ]
            refine wpAnyH_done (by kernel_rfl) ?_ _
            have HF9 := hid (cm_below (by assumption))
            go_wp2_with fail
            go_ret3
            exact ⟨by rw [HX.out.1, HX.out.2.1, HX.out.2.2, ← HD.out, ← HCN.out]; rfl, HF9.out⟩
          · have HX := hid (HF.out i hlt hk.out p q p HE.out.1 HE.out.2 (.inr ⟨fun h => h1 (HA.out.1 h).1, HB.out.2 ⟨h2, h3⟩, rfl⟩))
            have g1 : ((p : Int) == t) = false := by rw [beq_eq_false_iff_ne]; exact fun h => h1 h.symm
            have g2 : ((q : Int) == t) = true := by rw [beq_iff_eq]; exact h2.symm
            subst h3
            clear h1 h2
            go_upto_region 14 with (go_at_call 46; (with_reducible refine (gap_any W H hW1 hW2 _ k u p q hp2 hq2 d HGN.out _).mono ?_); rintro e w1 ⟨rfl, hb⟩; have HN9 := hid (HB9.out.stays hb); clear hb c0 c1 c2 b0 b1 b2 b3 hz hgz HB9; have HB9 := HN9; clear HN9; obtain ⟨_, c0, c1, c2, b0, b1, b2, b3⟩ := cm_keep (And.intro HB9.out trivial) (Below.refl _ _); have hz := HB9.out.lb.size; have hgz := heap_lt HB9.out.hg)
            refine wp_region_held_drew (S := (fun wr => CM W H ao n cap Z g k p q u w wr ∧ wr.cell? ⟨w.heap.size, 0, none⟩ = some (.int .i64 W) ∧ wr.cell? ⟨w.heap.size, 1, none⟩ = some (.int .i64 H) ∧ wr.cell? ⟨w.heap.size, 2, none⟩ = some (.slice ao n cap) ∧ wr.cell? ⟨g, 0, none⟩ = some (.int .i64 k) ∧ wr.cell? ⟨g, 1, none⟩ = some (.int .i64 p) ∧ wr.cell? ⟨g, 2, none⟩ = some (.int .i64 q) ∧ wr.cell? ⟨g, 3, none⟩ = some (.int .i64 u))) (by kernel_rfl) (cm_keep (And.intro HB9.out trivial) ((Below.refl _ _).drew)) (fun hHeld => ?_)
            refine wpAnyH_take (i := 0) (oi := { dst := some 85, op := Op.fieldAddr 26 (Operand.tmp 13) 1, type := 0, pos := "ref.go:252", after := #[], guard := none }) (v := ?_) rfl (by kernel_rfl) (by kernel_rfl) (by kernel_rfl) (fun _ _ _ h => h) (Or.inl ⟨by rfl, ?_⟩) (by assumption) ?_
            rotate_left
            · intro w hSw; (try dsimp only at hSw); go_simp; try (with_reducible rfl)
            try simp only [Act.put, List.setIfInBounds_toArray, List.set_cons_zero, List.set_cons_succ]
            refine wpAnyH_take (i := 1) (oi := { dst := some 86, op := Op.load 3 (Operand.tmp 85), type := 3, pos := "ref.go:252", after := #[{ on := 0, ground := Ground.data }], guard := none }) (v := ?_) rfl (by kernel_rfl) (by kernel_rfl) (by kernel_rfl) (fun _ _ _ h => h) (Or.inl ⟨by rfl, ?_⟩) (by assumption) ?_
            rotate_left
            · intro w hSw; (try dsimp only at hSw); go_simp; try (with_reducible rfl)
            try simp only [Act.put, List.setIfInBounds_toArray, List.set_cons_zero, List.set_cons_succ]
            refine wpAnyH_take (i := 2) (oi := { dst := some 87, op := Op.load 24 (Operand.tmp 4), type := 24, pos := "ref.go:252", after := #[], guard := none }) (v := ?_) rfl (by kernel_rfl) (by kernel_rfl) (by kernel_rfl) (fun _ _ _ h => h) (Or.inl ⟨by rfl, ?_⟩) (by assumption) ?_
            rotate_left
            · intro w hSw; (try dsimp only at hSw); go_simp; try (with_reducible rfl)
            try simp only [Act.put, List.setIfInBounds_toArray, List.set_cons_zero, List.set_cons_succ]
            refine wpAnyH_take (i := 3) (oi := { dst := some 88, op := Op.load 26 (Operand.tmp 13), type := 26, pos := "ref.go:252", after := #[], guard := none }) (v := ?_) rfl (by kernel_rfl) (by kernel_rfl) (by kernel_rfl) (fun _ _ _ h => h) (Or.inl ⟨by rfl, ?_⟩) (by assumption) ?_
            rotate_left
            · intro w hSw; (try dsimp only at hSw); go_simp; try (with_reducible rfl)
            try simp only [Act.put, List.setIfInBounds_toArray, List.set_cons_zero, List.set_cons_succ]
            refine wpAnyH_ready (rs := [4]) (by kernel_rfl) (by simp) ?_
            refine AllReadyH.cons (o := { dst := some 89, op := Op.call { callee := Callee.value (Operand.func 43), args := #[Operand.tmp 87, Operand.tmp 88], argTypes := #[24, 26] }, type := 22, pos := "ref.go:252", after := #[{ on := 2, ground := Ground.data }, { on := 3, ground := Ground.data }], guard := none }) rfl (fun K hK => ?_) AllReadyH.nil
            go_simp
            refine (between_to hW1 hW2 ao n cap Z k u p q hp2 hq2 HL.out d cc HD.out HCN.out _ (cm_ints (by assumption))).mono ?_
            rintro r w' ⟨v, rfl, hrow, hb⟩
            obtain ⟨vo, vc, rfl⟩ := row_slice hrow
            clear hrow
            try go_wp2_with fail
            refine hK.out _ _ (cm_keep (by assumption) hb) (fun hHeld2 => ?_)
            clear hK K
            try simp only [Act.put, List.setIfInBounds_toArray, List.set_cons_zero, List.set_cons_succ]
            refine wpAnyH_take (i := 5) (oi := { dst := some 90, op := Op.call { callee := Callee.builtin Builtin.len, args := #[Operand.tmp 89], argTypes := #[22] }, type := 3, pos := "ref.go:252", after := #[{ on := 4, ground := Ground.data }], guard := none }) (v := ?_) rfl (by kernel_rfl) (by kernel_rfl) (by kernel_rfl) (fun _ _ _ h => h) (Or.inl ⟨by rfl, ?_⟩) (by assumption) ?_
            rotate_left
            · intro w hSw; (try dsimp only at hSw); go_simp; try (with_reducible rfl)
            try simp only [Act.put, List.setIfInBounds_toArray, List.set_cons_zero, List.set_cons_succ]
            refine wpAnyH_take (i := 6) (oi := { dst := some 8, op := Op.assign (Operand.tmp 86), type := 3, pos := "ref.go:252", after := #[{ on := 1, ground := Ground.data }, { on := 4, ground := Ground.chain }, { on := 0, ground := Ground.phase }, { on := 1, ground := Ground.phase }, { on := 2, ground := Ground.textOnly Departure.lateStores }, { on := 3, ground := Ground.textOnly Departure.lateStores }, { on := 4, ground := Ground.textOnly Departure.lateStoresUnsure }, { on := 5, ground := Ground.textOnly Departure.lateStoresUnsure }], guard := none }) (v := ?_) rfl (by kernel_rfl) (by kernel_rfl) (by kernel_rfl) (fun _ _ _ h => h) (Or.inl ⟨by rfl, ?_⟩) (by assumption) ?_
            rotate_left
            · intro w hSw; (try dsimp only at hSw); go_simp; try (with_reducible rfl)
            try simp only [Act.put, List.setIfInBounds_toArray, List.set_cons_zero, List.set_cons_succ]
            refine wpAnyH_take (i := 7) (oi := { dst := some 9, op := Op.assign (Operand.tmp 90), type := 3, pos := "ref.go:252", after := #[{ on := 5, ground := Ground.data }, { on := 6, ground := Ground.chain }, { on := 0, ground := Ground.phase }, { on := 1, ground := Ground.phase }, { on := 2, ground := Ground.phase }, { on := 3, ground := Ground.phase }, { on := 4, ground := Ground.phase }, { on := 5, ground := Ground.phase }, { on := 6, ground := Ground.phase }], guard := none }) (v := ?_) rfl (by kernel_rfl) (by kernel_rfl) (by kernel_rfl) (fun _ _ _ h => h) (Or.inl ⟨by rfl, ?_⟩) (by assumption) ?_
            rotate_left
            · intro w hSw; (try dsimp only at hSw); go_simp; try (with_reducible rfl)
            try simp only [Act.put, List.setIfInBounds_toArray, List.set_cons_zero, List.set_cons_succ]
            refine wpAnyH_take (i := 8) (oi := { dst := some 10, op := Op.assign (Operand.const (Value.int IntKind.i64 0)), type := 29, pos := "ref.go:252", after := #[{ on := 7, ground := Ground.chain }, { on := 0, ground := Ground.phase }, { on := 1, ground := Ground.phase }, { on := 2, ground := Ground.phase }, { on := 3, ground := Ground.phase }, { on := 4, ground := Ground.phase }, { on := 5, ground := Ground.phase }, { on := 6, ground := Ground.phase }, { on := 7, ground := Ground.phase }], guard := none }) (v := ?_) rfl (by kernel_rfl) (by kernel_rfl) (by kernel_rfl) (fun _ _ _ h => h) (Or.inl ⟨by rfl, ?_⟩) (by assumption) ?_
            rotate_left
            · intro w hSw; (try dsimp only at hSw); go_simp; try (with_reducible rfl)
            try simp only [Act.put, List.setIfInBounds_toArray, List.set_cons_zero, List.set_cons_succ]
            refine wpAnyH_done (by kernel_rfl) ?_ _
            have HF9 := hid (cm_below (by assumption))
            go_wp2_with fail
            go_ret3
            exact ⟨by rw [HX.out.1, HX.out.2.1, HX.out.2.2, ← HD.out, ← HCN.out]; rfl, HF9.out⟩
          · exact absurd HL.out.1 (by omega)
          · have HO : Hid (¬ GoA W p q t s ∧ ¬ GoB W p q t s) := hid (by rw [HA.out, HB.out]; omega)
            have hno2 : ((((p : Int) == t) = false ∧ ((q : Int) == t) = false) ∨ (((p : Int) == t) = false ∧ ((q : Int) == t) = true ∧ (s == 3) = false)) ∨ ((((p : Int) == t) = true ∧ (s == 1) = false) ∧ ((q : Int) == t) = false) := by
              have hpq := HL.out.1
              simp only [beq_eq_false_iff_ne, beq_iff_eq]
              omega
            clear hno
            rcases hno2 with (⟨g1, g2⟩ | ⟨g1, g2, g3⟩) | ⟨⟨g1, g2⟩, g3⟩
            all_goals
              go_wp2_with (go_at_call 46; (with_reducible refine (gap_any W H hW1 hW2 _ k u p q hp2 hq2 d HGN.out _).mono ?_); rintro e w1 ⟨rfl, hb⟩; have HN9 := hid (HB9.out.stays hb); clear hb c0 c1 c2 b0 b1 b2 b3 hz hgz HB9; have HB9 := HN9; clear HN9; obtain ⟨_, c0, c1, c2, b0, b1, b2, b3⟩ := cm_keep (And.intro HB9.out trivial) (Below.refl _ _); have hz := HB9.out.lb.size; have hgz := heap_lt HB9.out.hg)
              have HL9 := hid HB9.out.lb
              clear c0 c1 c2 b0 b1 b2 b3 hz hgz HB9 hB
              go_roundw
              case rel =>
                refine ⟨i + 1, by omega, by go_num, hid (fun j hj p' q' e1 e2 => ?_), HL9⟩
                by_cases h : j < i
                · exact hk.out j h p' q' e1 e2
                · obtain rfl : j = i := by omega
                  obtain rfl : p' = p := by have := HE.out.1; omega
                  obtain rfl : q' = q := by have := HE.out.2; omega
                  exact HO.out
              case measure => simp [intOf]; omega
      · obtain rfl : i = m := by omega
        have HX := hid (HZ.out hk.out)
        go_wp2_with fail
        go_ret3
        exact ⟨by rw [HX.out.1, HX.out.2.1, HX.out.2.2]; rfl, hB.out.below⟩
end Go.Proofs.Ytpohhcmkkjcelaa
