/-
  The walks of May of the reference and of the law on it.
-/
import Derived.Test.YtbfpcolkbfljoaaDoorBMay
namespace Go.Proofs.YtbfpcolkbfljoaaDoor
open Go.RowKit Go.Maps

set_option maxRecDepth 20000 in
set_option maxHeartbeats 25600000 in
theorem rmay_to (d : Rl) (hb : Bnd d) (hl : d.l ≤ 1000) (t p o t' p' o' : Int) (b : Bool) (e : Int) (h : MayIs d t p o t' p' o' b e) (w : World) (hH : Has d w) :
    Calls Tryd.prog 37 #[d.rv, d.ls, sv t p o, sv t' p' o'] w fun r w' => r = .returned (.tuple #[.bool b, .int .i64 e]) ∧ Below w.heap.size w w' := by
  have HM := hid (SM.start d t p o t' p' o' hH)
  clear hH
  rcases h with ⟨h0, rfl, hd⟩ | ⟨hd, L, e1, hn, h⟩
  · have HV := hid (fun w hH => drvalidate_to d hb e hd w hH)
    have g : (e != 0) = true := by simpa using h0
    have g2 : (e == 0) = false := by simpa using h0
    go_enter Tryd.func37, Tryd.ntmps37
    go_upto_region 1 with fail
    generalize World.alloc (World.alloc (World.alloc w _) _) _ = wm at HM ⊢
    have c0 := HM.out.rx.c0
    have c1 := HM.out.rx.c1
    have c2 := HM.out.rx.c2
    have c3 := HM.out.rx.c3
    have s0 := HM.out.s0
    have s1 := HM.out.s1
    have s2 := HM.out.s2
    have n0 := HM.out.n0
    have n1 := HM.out.n1
    have n2 := HM.out.n2
    have hz := HM.out.size
    go_wp2_with (go_at_call 18; (refine (HV.out _ HM.out.has).mono ?_); rintro r w1 ⟨rfl, hb⟩; have HN := hid (HM.out.stays hb); clear hb c0 c1 c2 c3 s0 s1 s2 n0 n1 n2 hz HM; have HM := HN; clear HN; have c0 := HM.out.rx.c0; have c1 := HM.out.rx.c1; have c2 := HM.out.rx.c2; have c3 := HM.out.rx.c3; have s0 := HM.out.s0; have s1 := HM.out.s1; have s2 := HM.out.s2; have n0 := HM.out.n0; have n1 := HM.out.n1; have n2 := HM.out.n2; have hz := HM.out.size)
    go_ret2
    exact ⟨rfl, HM.out.below⟩
  · have HV := hid (fun w hH => drvalidate_to d hb 0 hd w hH)
    have HX := hid (fun w hH => drnext_to d hb t p o L e1 hn w hH)
    have hok := hd.gd.ok
    have hll := hn.len
    rcases h with ⟨h1, rfl, rfl⟩ | ⟨rfl, h⟩
    · have g : (e != 0) = true := by simpa using h1
      have g2 : (e == 0) = false := by simpa using h1
      clear hd hn hok
      go_enter Tryd.func37, Tryd.ntmps37
      go_upto_region 1 with fail
      generalize World.alloc (World.alloc (World.alloc w _) _) _ = wm at HM ⊢
      have c0 := HM.out.rx.c0
      have c1 := HM.out.rx.c1
      have c2 := HM.out.rx.c2
      have c3 := HM.out.rx.c3
      have s0 := HM.out.s0
      have s1 := HM.out.s1
      have s2 := HM.out.s2
      have n0 := HM.out.n0
      have n1 := HM.out.n1
      have n2 := HM.out.n2
      have hz := HM.out.size
      go_wp2_with (first
        | (go_at_call 18; (refine (HV.out _ HM.out.has).mono ?_); rintro r w1 ⟨rfl, hb⟩; have HN := hid (HM.out.stays hb); clear hb c0 c1 c2 c3 s0 s1 s2 n0 n1 n2 hz HM; have HM := HN; clear HN; have c0 := HM.out.rx.c0; have c1 := HM.out.rx.c1; have c2 := HM.out.rx.c2; have c3 := HM.out.rx.c3; have s0 := HM.out.s0; have s1 := HM.out.s1; have s2 := HM.out.s2; have n0 := HM.out.n0; have n1 := HM.out.n1; have n2 := HM.out.n2; have hz := HM.out.size)
        | (go_at_call 71; (refine (HX.out _ HM.out.has).mono ?_); rintro r w1 ⟨lst, rfl, hrow, hb⟩; have HN := hid (HM.out.stays hb); clear hb c0 c1 c2 c3 s0 s1 s2 n0 n1 n2 hz HM; have HM := HN; clear HN; have c0 := HM.out.rx.c0; have c1 := HM.out.rx.c1; have c2 := HM.out.rx.c2; have c3 := HM.out.rx.c3; have s0 := HM.out.s0; have s1 := HM.out.s1; have s2 := HM.out.s2; have n0 := HM.out.n0; have n1 := HM.out.n1; have n2 := HM.out.n2; have hz := HM.out.size))
      go_ret2
      exact ⟨rfl, HM.out.below⟩
    · have HN := hid hn
      have HOK := hid hok
      have HMM := hid h
      clear hd hn hok h
      go_enter Tryd.func37, Tryd.ntmps37
      go_upto_region 1 with fail
      generalize World.alloc (World.alloc (World.alloc w _) _) _ = wm at HM ⊢
      have c0 := HM.out.rx.c0
      have c1 := HM.out.rx.c1
      have c2 := HM.out.rx.c2
      have c3 := HM.out.rx.c3
      have s0 := HM.out.s0
      have s1 := HM.out.s1
      have s2 := HM.out.s2
      have n0 := HM.out.n0
      have n1 := HM.out.n1
      have n2 := HM.out.n2
      have hz := HM.out.size
      go_wp2_with (first
        | (go_at_call 18; (refine (HV.out _ HM.out.has).mono ?_); rintro r w1 ⟨rfl, hb⟩; have HN := hid (HM.out.stays hb); clear hb c0 c1 c2 c3 s0 s1 s2 n0 n1 n2 hz HM; have HM := HN; clear HN; have c0 := HM.out.rx.c0; have c1 := HM.out.rx.c1; have c2 := HM.out.rx.c2; have c3 := HM.out.rx.c3; have s0 := HM.out.s0; have s1 := HM.out.s1; have s2 := HM.out.s2; have n0 := HM.out.n0; have n1 := HM.out.n1; have n2 := HM.out.n2; have hz := HM.out.size)
        | (go_at_call 71; (refine (HX.out _ HM.out.has).mono ?_); rintro r w1 ⟨lst, rfl, hrow, hb⟩; obtain ⟨al, cl, rfl⟩ := slice_of_row hrow; have HR := hid (row_mono (base' := 0) hrow (Nat.zero_le _)); have HN := hid (HM.out.stays hb); clear hb c0 c1 c2 c3 s0 s1 s2 n0 n1 n2 hz HM; have HM := HN; clear HN; have c0 := HM.out.rx.c0; have c1 := HM.out.rx.c1; have c2 := HM.out.rx.c2; have c3 := HM.out.rx.c3; have s0 := HM.out.s0; have s1 := HM.out.s1; have s2 := HM.out.s2; have n0 := HM.out.n0; have n1 := HM.out.n1; have n2 := HM.out.n2; have hz := HM.out.size; clear hrow))
      clear c0 c1 c2 c3 s0 s1 s2 n0 n1 n2 hz
      go_loopw [13, 14] (fun sv iv wr => ∃ (j : Nat) (f : Bool), j ≤ L.length ∧ iv = .int .i64 j ∧ sv = .bool f ∧ Hid (f = true ↔ ∃ i, i < j ∧ L.getD i (0, 0, 0) = (t', p', o')) ∧ Hid (SM d t p o t' p' o' w wr) ∧ Hid (wr.ownsRow 0 50 3 (.slice al L.length cl) L.length (encS L))) (fun _ iv _ => L.length - (intOf iv).toNat)
      case atStart => exact ⟨0, false, Nat.zero_le _, rfl, rfl, hid ⟨fun h => (by cases h), fun ⟨i, hi, _⟩ => by omega⟩, HM, HR⟩
      case round =>
        clear HM HR
        obtain ⟨j, f, hj, rfl, rfl, HF, HM, HR⟩ := hrel
        by_cases hjl : j < L.length
        · obtain ⟨gl, cl2, he, _, hgz⟩ := HR.out.form (by omega)
          obtain ⟨rfl, rfl⟩ : al = some ⟨gl, 0, none⟩ ∧ cl = cl2 := by simpa using he
          have e3 := encS_at L j hjl
          have k0 := (HR.out.cellAt (j * 3) (by omega)).trans e3.1
          have k1 := (HR.out.cellAt (j * 3 + 1) (by omega)).trans e3.2.1
          have k2 := (HR.out.cellAt (j * 3 + 2) (by omega)).trans e3.2.2
          obtain ⟨⟨x, y, z⟩, hx⟩ : ∃ x, L.getD j (0, 0, 0) = x := ⟨_, rfl⟩
          rw [hx] at k0 k1 k2
          simp only at k0 k1 k2
          have HX2 := hid hx
          have y3 : (0 : Int) ≤ (j : Int) := by omega
          have y4 : (j : Int) < (L.length : Int) := by omega
          have n0 := HM.out.n0; have n1 := HM.out.n1; have n2 := HM.out.n2; have hz := HM.out.size
          clear e3 hx he
          cases f
          · by_cases ha : x = t' ∧ y = p' ∧ z = o'
            · have hf1 : Hid ((true : Bool) = true ↔ ∃ i, i < j + 1 ∧ L.getD i (0, 0, 0) = (t', p', o')) := hid ⟨fun _ => ⟨j, by omega, by rw [HX2.out, ha.1, ha.2.1, ha.2.2]⟩, fun _ => rfl⟩
              obtain ⟨rfl, rfl, rfl⟩ := ha
              go_wp2_with fail
              go_quiet (fail)
              go_wp2_with fail
              go_roundw
              case rel => exact ⟨j + 1, true, by omega, by go_num, rfl, hid ⟨fun _ => ⟨j, by omega, HX2.out⟩, fun _ => rfl⟩, hid (HM.out.stays (Joins.below_draws _ _ _)), hid (row_stays HR.out (Joins.below_draws _ _ _))⟩
              case measure => simp [intOf]; omega
            · have hqj : Hid (∀ i, i < j + 1 → L.getD i (0, 0, 0) ≠ (t', p', o')) := hid (fun i hi h => by
                by_cases hq : i < j
                · have := HF.out.2 ⟨i, hq, h⟩; cases this
                · obtain rfl : i = j := by omega
                  have := HX2.out.symm.trans h
                  simp only [Prod.mk.injEq] at this
                  exact ha this)
              have hcs : (x == t') = false ∨ (x = t' ∧ (y == p') = false) ∨ (x = t' ∧ y = p' ∧ (z == o') = false) := by
                by_cases h1 : x = t'
                · by_cases h2 : y = p'
                  · exact .inr (.inr ⟨h1, h2, by simpa using fun h3 => ha ⟨h1, h2, h3⟩⟩)
                  · exact .inr (.inl ⟨h1, by simpa using h2⟩)
                · exact .inl (by simpa using h1)
              clear ha HX2
              rcases hcs with h1 | ⟨rfl, h2⟩ | ⟨rfl, rfl, h3⟩
              all_goals
                go_wp2_with fail
                go_quiet (fail)
                go_wp2_with fail
                go_roundw
                case rel => exact ⟨j + 1, false, by omega, by go_num, rfl, hid ⟨fun h => (by cases h), fun ⟨i, hi, h⟩ => absurd h (hqj.out i hi)⟩, hid (HM.out.stays (Joins.below_draws _ _ _)), hid (row_stays HR.out (Joins.below_draws _ _ _))⟩
                case measure => simp [intOf]; omega
          · go_wp2_with fail
            go_quiet (fail)
            go_wp2_with fail
            go_roundw
            case rel => exact ⟨j + 1, true, by omega, by go_num, rfl, hid ⟨fun _ => by obtain ⟨i, hi, h⟩ : ∃ i, i < j ∧ L.getD i (0, 0, 0) = (t', p', o') := (by first | exact HF.out.1 rfl | exact HF.out | simpa using HF.out); exact ⟨i, by omega, h⟩, fun _ => rfl⟩, hid (HM.out.stays (Joins.below_draws _ _ _)), hid (row_stays HR.out (Joins.below_draws _ _ _))⟩
            case measure => simp [intOf]; omega
        · obtain rfl : j = L.length := by omega
          have hmem : Hid (f = true ↔ (t', p', o') ∈ L) := hid (by
            rw [HF.out]
            constructor
            · rintro ⟨i, hi, h⟩
              rw [← h, List.getD_eq_getElem?_getD, List.getElem?_eq_getElem hi]
              exact List.getElem_mem hi
            · intro h
              obtain ⟨i, hi, h⟩ := List.getElem_of_mem h
              exact ⟨i, hi, by rw [List.getD_eq_getElem?_getD, List.getElem?_eq_getElem hi, Option.getD_some, h]⟩)
          clear hjl
          rcases HMM.out with ⟨hm, rfl, rfl⟩ | ⟨hm, rfl, hbb⟩
          · have hff : f = false := by rw [Bool.eq_false_iff]; exact fun h => hm (hmem.out.1 h)
            subst hff
            clear hm
            go_wp2_with fail
            go_ret2
            exact ⟨rfl, HM.out.below⟩
          · have hff : f = true := hmem.out.2 hm
            subst hff
            obtain ⟨q, hq⟩ : ∃ q, (o + 2) % 4 = q := ⟨_, rfl⟩
            have ho : 0 ≤ o ∧ o ≤ 3 := by
              rcases HN.out with ⟨h, _⟩ | ⟨_, _, _, h⟩
              · exact absurd rfl h
              · have := oth_yes h.1; omega
            obtain ⟨ho1, ho2⟩ := ho
            rw [hq] at hbb
            obtain ⟨v1, hv1⟩ := AtIs.ex d.l d.S t p o
            obtain ⟨v2, hv2⟩ := AtIs.ex d.l d.S t' p' q
            have HA1 := hid (fun w hS => at_any d.lo d.l d.lcap d.S hl t p o v1 hv1 w hS)
            have HA2 := hid (fun w hS => at_any d.lo d.l d.lcap d.S hl t' p' q v2 hv2 w hS)
            have hc1 : cutB d t p o = true ↔ 0 ≤ v1 := by
              rw [cutB_iff]
              rcases hv1 with ⟨rfl, h⟩ | ⟨i, rfl, hi, h, _⟩
              · exact ⟨fun ⟨i, hi, h'⟩ => absurd h' (h i hi), fun h => by omega⟩
              · exact ⟨fun _ => by omega, fun _ => ⟨i, hi, h⟩⟩
            have s0 := HM.out.s0; have s1 := HM.out.s1; have s2 := HM.out.s2; have n0 := HM.out.n0; have n1 := HM.out.n1; have n2 := HM.out.n2; have hz := HM.out.size
            have c0 := HM.out.rx.c0; have c1 := HM.out.rx.c1; have c2 := HM.out.rx.c2; have c3 := HM.out.rx.c3
            by_cases hp1 : 0 ≤ v1
            · have hbt : Hid (b = true) := hid (by rw [hbb, hc1.2 hp1]; simp)
              clear hv1 hv2 hc1 hbb hm
              go_wp2_with (go_at_call 60; (refine (HA1.out _ HM.out.has.sigs).mono ?_); rintro r w1 ⟨rfl, hb⟩; have HN := hid (HM.out.stays hb); clear hb c0 c1 c2 c3 s0 s1 s2 n0 n1 n2 hz HM; have HM := HN; clear HN; have c0 := HM.out.rx.c0; have c1 := HM.out.rx.c1; have c2 := HM.out.rx.c2; have c3 := HM.out.rx.c3; have s0 := HM.out.s0; have s1 := HM.out.s1; have s2 := HM.out.s2; have n0 := HM.out.n0; have n1 := HM.out.n1; have n2 := HM.out.n2; have hz := HM.out.size)
              go_ret2
              exact ⟨by rw [hbt.out]; try rfl, HM.out.below⟩
            · have hcf : cutB d t p o = false := by rw [Bool.eq_false_iff]; exact fun h => hp1 (hc1.1 h)
              have hp1' : v1 < 0 := by omega
              rw [hcf, Bool.false_or] at hbb
              clear hv1 hc1 hcf hp1
              rcases hv2 with ⟨rfl, h⟩ | ⟨i, rfl, hi, h, _⟩
              · have hbt : Hid (b = true) := hid (by
                  have : agB d t' p' q = false := by
                    rw [Bool.eq_false_iff, ne_eq, agB_iff]
                    exact fun ⟨i, hi, a, b, c, _⟩ => h i hi ⟨a, b, c⟩
                  rw [hbb, this]; rfl)
                clear h hbb hm
                go_wp2_with (go_at_call 60; (first | (with_reducible refine (HA1.out _ HM.out.has.sigs).mono ?_) | (with_reducible refine (HA2.out _ HM.out.has.sigs).mono ?_)); rintro r w1 ⟨rfl, hb⟩; have HN := hid (HM.out.stays hb); clear hb c0 c1 c2 c3 s0 s1 s2 n0 n1 n2 hz HM; have HM := HN; clear HN; have c0 := HM.out.rx.c0; have c1 := HM.out.rx.c1; have c2 := HM.out.rx.c2; have c3 := HM.out.rx.c3; have s0 := HM.out.s0; have s1 := HM.out.s1; have s2 := HM.out.s2; have n0 := HM.out.n0; have n1 := HM.out.n1; have n2 := HM.out.n2; have hz := HM.out.size)
                go_ret2
                exact ⟨by rw [hbt.out]; try rfl, HM.out.below⟩
              · obtain ⟨kk, hkk⟩ : ∃ kk, kk = (d.S i).k := ⟨_, rfl⟩
                have hbt : Hid (b = (kk == 4)) := hid (by
                  rw [hbb]
                  have hiff : agB d t' p' q = true ↔ kk ≠ 4 := by
                    rw [agB_iff, hkk]
                    constructor
                    · rintro ⟨j, hj, a, b, c, h4⟩
                      have : i = j := by
                        rcases Nat.lt_trichotomy i j with e | e | e
                        · have := HOK.out.asc.lt e hj
                          unfold Less at this
                          rw [h.1, h.2.1, h.2.2, a, b, c] at this
                          exact absurd this fun h => h.irrefl
                        · exact e
                        · have := HOK.out.asc.lt e hi
                          unfold Less at this
                          rw [h.1, h.2.1, h.2.2, a, b, c] at this
                          exact absurd this fun h => h.irrefl
                      subst this; exact h4
                    · exact fun h4 => ⟨i, hi, h.1, h.2.1, h.2.2, h4⟩
                  rw [Bool.eq_iff_iff, Bool.not_eq_true', beq_iff_eq, Bool.eq_false_iff, ne_eq, hiff]
                  exact Decidable.not_not)
                have HK := hid hkk
                obtain ⟨z, hz4⟩ : ∃ z, (kk == 4) = z := ⟨_, rfl⟩
                rw [hz4] at hbt
                have hi2 : (i : Int) < (d.l : Int) := by omega
                obtain ⟨bl, off, hlo, hbz0, _⟩ := HM.out.has.sigs i hi
                obtain ⟨dW, dH, dn, dcap, dm, dbcap, dl, dlcap, dao, dbo, dlo, dZ, dB, dS⟩ := d
                dsimp only at hlo hi HK hi2 c2 c3 HA1 HA2
                subst hlo
                simp only [Rl.ls]
                clear h hbb hm hkk
                go_wp2_with (go_at_call 60; have hsg := fun wq (h : SM ⟨dW, dH, dn, dcap, dm, dbcap, dl, dlcap, dao, dbo, some ⟨bl, off, none⟩, dZ, dB, dS⟩ t p o t' p' o' w wq) => (show SigsAt wq (some ⟨bl, off, none⟩) dl dS from h.has.sigs); (first | (with_reducible refine (HA1.out _ (hsg _ HM.out)).mono ?_) | (with_reducible refine (HA2.out _ (hsg _ HM.out)).mono ?_)); clear hsg; rintro r w1 ⟨rfl, hb⟩; have HN := hid (HM.out.stays hb); clear hb c0 c1 c2 c3 s0 s1 s2 n0 n1 n2 hz HM; have HM := HN; clear HN; have c0 := HM.out.rx.c0; have c1 := HM.out.rx.c1; have c2 := HM.out.rx.c2; have c3 := HM.out.rx.c3; have s0 := HM.out.s0; have s1 := HM.out.s1; have s2 := HM.out.s2; have n0 := HM.out.n0; have n1 := HM.out.n1; have n2 := HM.out.n2; have hz := HM.out.size; have k3 : w1.cell? ⟨bl, off + i * 4 + 3, none⟩ = some (.int .i64 kk) := (by obtain ⟨bl', off', hlo', _, _, _, _, k3'⟩ := HM.out.has.sigs i hi; cases hlo'; rw [HK.out]; exact k3'); have hbz : bl < w1.heap.size := (by obtain ⟨bl', off', hlo', hz', _⟩ := HM.out.has.sigs i hi; cases hlo'; exact hz'))
                go_ret2
                exact ⟨by rw [hbt.out]; first | rfl | (rw [← hz4]; rfl) | done, HM.out.below⟩

set_option maxRecDepth 20000 in
set_option maxHeartbeats 12800000 in
theorem walk_mays (d : Rl) (hb : Bnd d) (t p o t' p' o' : Int) (w : World) (hH : Has d w) :
    Calls Tryd.prog 12 #[d.rv, d.ls, sv t p o, sv t' p' o'] w fun r w' => r = .returned (.bool true) ∧ Below w.heap.size w w' := by
  have HM := hid (SM.start d t p o t' p' o' hH)
  obtain ⟨b, e, hm⟩ := MayIs.ex d t p o t' p' o'
  obtain ⟨f, hf⟩ := far_ex d
  have HF := hid (fun w => far_any d hb f hf w)
  have HV1 := hid (fun w hH => may_to d hb t p o t' p' o' b e hm w hH)
  have HV2 := hid (fun hl w hH => rmay_to d hb hl t p o t' p' o' b e hm w hH)
  have ge : (e == e) = true := by simp
  have gb : (b == b) = true := by simp
  have HFF := hid hf
  clear hH hf hm
  cases f
  · have hl : Hid (d.l ≤ 1000) := hid (by
      have h := HFF.out.2
      by_cases hh : 400 < d.l
      · have := h (.inr (.inr hh)); cases this
      · omega)
    have HV3 := hid (HV2.out hl.out)
    clear HFF HV2
    go_enter Tryd.func12, Tryd.ntmps12
    go_upto_region 1 with fail
    generalize World.alloc (World.alloc (World.alloc w _) _) _ = wm at HM ⊢
    have c0 := HM.out.rx.c0
    have c1 := HM.out.rx.c1
    have c2 := HM.out.rx.c2
    have c3 := HM.out.rx.c3
    have s0 := HM.out.s0
    have s1 := HM.out.s1
    have s2 := HM.out.s2
    have n0 := HM.out.n0
    have n1 := HM.out.n1
    have n2 := HM.out.n2
    have hz := HM.out.size
    go_wp2_with (first
      | (go_at_call 16; (refine (HF.out _).mono ?_); rintro r w1 ⟨rfl, hb⟩; have HN := hid (HM.out.stays hb); clear hb c0 c1 c2 c3 s0 s1 s2 n0 n1 n2 hz HM; have HM := HN; clear HN; have c0 := HM.out.rx.c0; have c1 := HM.out.rx.c1; have c2 := HM.out.rx.c2; have c3 := HM.out.rx.c3; have s0 := HM.out.s0; have s1 := HM.out.s1; have s2 := HM.out.s2; have n0 := HM.out.n0; have n1 := HM.out.n1; have n2 := HM.out.n2; have hz := HM.out.size)
      | (go_at_call 37; (refine (HV3.out _ HM.out.has).mono ?_); rintro r w1 ⟨rfl, hb⟩; have HN := hid (HM.out.stays hb); clear hb c0 c1 c2 c3 s0 s1 s2 n0 n1 n2 hz HM; have HM := HN; clear HN; have c0 := HM.out.rx.c0; have c1 := HM.out.rx.c1; have c2 := HM.out.rx.c2; have c3 := HM.out.rx.c3; have s0 := HM.out.s0; have s1 := HM.out.s1; have s2 := HM.out.s2; have n0 := HM.out.n0; have n1 := HM.out.n1; have n2 := HM.out.n2; have hz := HM.out.size)
      | (go_at_call 38; (refine (HV1.out _ HM.out.has).mono ?_); rintro r w1 ⟨rfl, hb⟩; have HN := hid (HM.out.stays hb); clear hb c0 c1 c2 c3 s0 s1 s2 n0 n1 n2 hz HM; have HM := HN; clear HN; have c0 := HM.out.rx.c0; have c1 := HM.out.rx.c1; have c2 := HM.out.rx.c2; have c3 := HM.out.rx.c3; have s0 := HM.out.s0; have s1 := HM.out.s1; have s2 := HM.out.s2; have n0 := HM.out.n0; have n1 := HM.out.n1; have n2 := HM.out.n2; have hz := HM.out.size)
      | (go_at_call 17; (refine (known_any _ HM.out.has.tab).mono ?_); rintro r w1 ⟨rfl, hb⟩; have HN := hid (HM.out.stays hb); clear hb c0 c1 c2 c3 s0 s1 s2 n0 n1 n2 hz HM; have HM := HN; clear HN; have c0 := HM.out.rx.c0; have c1 := HM.out.rx.c1; have c2 := HM.out.rx.c2; have c3 := HM.out.rx.c3; have s0 := HM.out.s0; have s1 := HM.out.s1; have s2 := HM.out.s2; have n0 := HM.out.n0; have n1 := HM.out.n1; have n2 := HM.out.n2; have hz := HM.out.size))
    go_ret
    exact ⟨rfl, HM.out.below⟩
  · clear HFF
    go_enter Tryd.func12, Tryd.ntmps12
    go_upto_region 1 with fail
    generalize World.alloc (World.alloc (World.alloc w _) _) _ = wm at HM ⊢
    have c0 := HM.out.rx.c0
    have c1 := HM.out.rx.c1
    have c2 := HM.out.rx.c2
    have c3 := HM.out.rx.c3
    have s0 := HM.out.s0
    have s1 := HM.out.s1
    have s2 := HM.out.s2
    have n0 := HM.out.n0
    have n1 := HM.out.n1
    have n2 := HM.out.n2
    have hz := HM.out.size
    go_wp2_with (first
      | (go_at_call 16; (refine (HF.out _).mono ?_); rintro r w1 ⟨rfl, hb⟩; have HN := hid (HM.out.stays hb); clear hb c0 c1 c2 c3 s0 s1 s2 n0 n1 n2 hz HM; have HM := HN; clear HN; have c0 := HM.out.rx.c0; have c1 := HM.out.rx.c1; have c2 := HM.out.rx.c2; have c3 := HM.out.rx.c3; have s0 := HM.out.s0; have s1 := HM.out.s1; have s2 := HM.out.s2; have n0 := HM.out.n0; have n1 := HM.out.n1; have n2 := HM.out.n2; have hz := HM.out.size)
      | (go_at_call 17; (refine (known_any _ HM.out.has.tab).mono ?_); rintro r w1 ⟨rfl, hb⟩; have HN := hid (HM.out.stays hb); clear hb c0 c1 c2 c3 s0 s1 s2 n0 n1 n2 hz HM; have HM := HN; clear HN; have c0 := HM.out.rx.c0; have c1 := HM.out.rx.c1; have c2 := HM.out.rx.c2; have c3 := HM.out.rx.c3; have s0 := HM.out.s0; have s1 := HM.out.s1; have s2 := HM.out.s2; have n0 := HM.out.n0; have n1 := HM.out.n1; have n2 := HM.out.n2; have hz := HM.out.size))
    go_ret
    exact ⟨rfl, HM.out.below⟩
end Go.Proofs.YtbfpcolkbfljoaaDoor
