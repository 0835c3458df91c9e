/-
  The reference's walk of Haul.
-/
import Derived.Test.YtnhkblkijiipeaaFHau
import Derived.Test.YtnhkblkijiipeaaFMuR
namespace Go.Proofs.Ytnhkblkijiipeaa
open Go.RowKit

/-- How far the reference has come: nothing found among the first i, or at j. -/
def HSt (C : Nat → Int) (cargo n : Int) (S V : Nat → Int) (i : Nat) (S' V' : Nat → Int) (gt : Int) : Prop :=
  (gt = 0 ∧ S' = S ∧ V' = V ∧ ∀ j, j < i → C j ≠ cargo) ∨ ∃ j, j < i ∧ C j = cargo ∧ gt = min n (S j) ∧ S' = setF S j (S j - min n (S j)) ∧ V' = setF V j (min (V j + min n (S j)) 1000000)
theorem HSt.skip {C : Nat → Int} {cargo n : Int} {S V : Nat → Int} {i : Nat} {S' V' : Nat → Int} {gt : Int} (h : HSt C cargo n S V i S' V' gt) (hi : C i ≠ cargo) : HSt C cargo n S V (i + 1) S' V' gt := by
  rcases h with ⟨h1, h2, h3, h4⟩ | ⟨j, hj, h1⟩
  · exact Or.inl ⟨h1, h2, h3, fun j hj => by
      by_cases e : j = i
      · subst e; exact hi
      · exact h4 j (by omega)⟩
  · exact Or.inr ⟨j, by omega, h1⟩
theorem asc_lt {C : Nat → Int} {N : Nat} (h : ∀ i, i + 1 < N → C i < C (i + 1)) : ∀ {i j : Nat}, i < j → j < N → C i < C j := by
  intro i j hij hj
  induction j with
  | zero => omega
  | succ q ih =>
    have hq := h q hj
    by_cases e : i = q
    · subst e; exact hq
    · have := ih (by omega) (by omega); omega
theorem HSt.fresh {C : Nat → Int} {cargo n : Int} {S V : Nat → Int} {N i : Nat} {S' V' : Nat → Int} {gt : Int} (h : HSt C cargo n S V i S' V' gt) (hc : ∀ i, i + 1 < N → C i < C (i + 1)) (hi : i < N) (he : C i = cargo) : S' = S ∧ V' = V := by
  rcases h with ⟨_, h2, h3, _⟩ | ⟨j, hj, h1, _⟩
  · exact ⟨h2, h3⟩
  · have := asc_lt hc hj hi; omega
set_option maxRecDepth 100000 in
set_option maxHeartbeats 25600000 in
theorem rhaul_any (ko : Option Addr) (m kc : Nat) (K : Nat → Kd) (hcap : m ≤ kc) (_hm : m ≤ 1000) (hs : Small m K) (p : Pl) (hp : SmallP p) (cargo n : Int) (D : Da) (u r : Int) (hr : HaIs m K p cargo n D u r) (w : World) (hK : Kds w ko m K) (hP : PlAt w p) :
    Calls Try.prog 25 #[.slice ko m kc, pv p, .int .i64 cargo, .int .i64 n] w (UPost D u r w) := by
  have H0 := hid (PZ.start hP)
  have HKB : Hid (∀ W, Below w.heap.size w W → Kds W ko m K) := hid (fun W hb => hK.stays hb)
  obtain ⟨f, hf⟩ : ∃ f, UErr m K p cargo n = f := ⟨_, rfl⟩
  have HF := hid hf
  have HV := hid (fun W h h' => rasked_any ko m kc K hcap hs p hp cargo n f hf W h h')
  have HCP := hid (fun W h => again_any p hp W h)
  have HR := hid hr
  have HPB : Hid (∀ W, Below w.heap.size w W → PlAt W p) := hid (fun W hb => hP.stays hb)
  clear hP hK hr hf
  unfold UPost
  obtain ⟨pk, t, l, ⟨sa, sn, sc, sZ⟩, ⟨ra, rn, rc, rZ⟩, ⟨ma, mn, mc, mZ⟩, ⟨va, vn, vc, vZ⟩, g, d, o⟩ := p
  show Calls _ _ #[.slice ko m kc, .agg #[.int .i64 pk, .int .i64 t, .int .i64 l, .slice sa sn sc, .slice ra rn rc, .slice ma mn mc, .slice va vn vc, .int .i64 g, .int .i64 d, .bool o], .int .i64 cargo, .int .i64 n] w _
  obtain ⟨B, hB⟩ : ∃ B, w.heap.size = B := ⟨_, rfl⟩
  rw [hB] at H0 HKB HPB ⊢
  by_cases h0 : f = 0
  · subst h0
    obtain ⟨hpe, hn, hc⟩ := uerr_ok HF.out
    obtain ⟨k, hR⟩ := PErr_right hpe
    obtain rfl : pk = (k : Int) := hR.kp
    have hkm := hR.lt
    have hkm' : (k : Int) < (m : Int) := by omega
    obtain ⟨N, hN⟩ : ∃ N, (K k).mn = N := ⟨_, rfl⟩
    have l1 : sn = N := by rw [← hN]; exact hR.pl.st.len
    have l2 : rn = N := by rw [← hN]; exact hR.pl.re.len
    have l3 : mn = N := by rw [← hN]; exact hR.pl.ma.len
    have l4 : vn = N := by rw [← hN]; exact hR.pl.mo.len
    subst l1; subst l2; subst l3; subst l4
    have HRT := hid hR
    have HNN := hid hN
    have HKM := hid hkm
    have hvn : vn ≤ 1000 := by have := hR.ks.mn k hkm; omega
    have HVN := hid hvn
    have HHN := hid hn
    obtain ⟨⟨kb, koff, ke, _⟩, _⟩ := (HKB.out w (by rw [← hB]; exact Below.refl _ _)) k hkm
    subst ke
    clear hpe hR hN hkm hvn hn hc
    go_enter Try.func25, Try.ntmps25
    go_upto_region 1 with fail
    generalize World.alloc (World.alloc w _) _ = w1 at H0 ⊢
    have c0 := H0.out.c0; have c1 := H0.out.c1; have c2 := H0.out.c2; have c3 := H0.out.c3; have c4 := H0.out.c4; have c5 := H0.out.c5; have c6 := H0.out.c6; have c7 := H0.out.c7; have c8 := H0.out.c8; have c9 := H0.out.c9; have fb := H0.out.fb
    go_upto_region 2 with (go_at_call 45; refine (HV.out _ (HKB.out _ H0.out.below) H0.out.lists).mono ?_; rintro e w2 ⟨rfl, hb⟩; have H1 := hid (H0.out.stays hb); clear c0 c1 c2 c3 c4 c5 c6 c7 c8 c9 fb; clear hb)
    clear H0
    have c0 := H1.out.c0; have c1 := H1.out.c1; have c2 := H1.out.c2; have c3 := H1.out.c3; have c4 := H1.out.c4; have c5 := H1.out.c5; have c6 := H1.out.c6; have c7 := H1.out.c7; have c8 := H1.out.c8; have c9 := H1.out.c9; have fb := H1.out.fb
    go_upto_region 5 with (go_at_call 42; refine (HCP.out _ H1.out.lists).mono ?_; rintro e w3 ⟨b1, b2, b3, b4, e1, e2, e3, e4, he, hr4, hb⟩; have he : e = .returned (.agg #[.int .i64 (k : Int), .int .i64 t, .int .i64 l, .slice b1 vn e1, .slice b2 vn e2, .slice b3 vn e3, .slice b4 vn e4, .int .i64 g, .int .i64 d, .bool o]) := he; subst he; have H2 := hid (H1.out.stays hb); have hle := H1.out.le; have H1 := H2; clear c0 c1 c2 c3 c4 c5 c6 c7 c8 c9 fb; clear hb; have c0 := H1.out.c0; have c1 := H1.out.c1; have c2 := H1.out.c2; have c3 := H1.out.c3; have c4 := H1.out.c4; have c5 := H1.out.c5; have c6 := H1.out.c6; have c7 := H1.out.c7; have c8 := H1.out.c8; have c9 := H1.out.c9; have fb := H1.out.fb)
    have hr4 : R4 w3 w2.heap.size ⟨(k : Int), t, l, ⟨b1, vn, e1, sZ⟩, ⟨b2, vn, e2, rZ⟩, ⟨b3, vn, e3, mZ⟩, ⟨b4, vn, e4, vZ⟩, g, d, o⟩ := hr4
    obtain ⟨X, hX⟩ : ∃ X, w3.heap.size = X := ⟨_, rfl⟩
    have HM : Hid (MR ⟨(k : Int), t, l, ⟨b1, vn, e1, sZ⟩, ⟨b2, vn, e2, rZ⟩, ⟨b3, vn, e3, mZ⟩, ⟨b4, vn, e4, vZ⟩, g, d, o⟩ B (B + 2) X [(B, boxOf ⟨(k : Int), t, l, ⟨sa, vn, sc, sZ⟩, ⟨ra, vn, rc, rZ⟩, ⟨ma, vn, mc, mZ⟩, ⟨va, vn, vc, vZ⟩, g, d, o⟩), (B + 1, zeroBox)] w _) := hid (by rw [← hX]; exact H1.out.fresh hr4 hle)
    rw [hX]
    clear c0 c1 c2 c3 c4 c5 c6 c7 c8 c9 fb hr4 H1 H2 hle hX
    generalize World.alloc w3 _ = w4 at HM ⊢
    have HO := hid ((HM.out.ex (B, boxOf ⟨(k : Int), t, l, ⟨sa, vn, sc, sZ⟩, ⟨ra, vn, rc, rZ⟩, ⟨ma, vn, mc, mZ⟩, ⟨va, vn, vc, vZ⟩, g, d, o⟩) (by simp)).1)
    have o0 : w4.cell? ⟨B, 0, none⟩ = some (.int .i64 (k : Int)) := cell_of_row _ B 0 _ _ _ HO.out
    obtain ⟨kb', koff', e', _, z0, z1, z2⟩ := kat (HKB.out _ HM.out.below) HKM.out
    cases e'
    rw [HNN.out] at z2
    go_upto_region 6 with fail
    clear o0 z0 z1 z2 HO HCP HV
    have HTA : Hid (∀ W, Below B w W → KdAt W (K k)) := hid (fun W hb => (HKB.out W hb k HKM.out).2)
    have HL0 : Hid (HSt (K k).C cargo n sZ vZ 0 sZ vZ 0) := hid (Or.inl ⟨rfl, rfl, rfl, fun j hj => absurd hj (Nat.not_lt_zero j)⟩)
    have hvn := HVN.out
    go_loopw [13, 34] (fun gv iv wr => ∃ (i : Nat) (S' V' : Nat → Int) (gt : Int), i ≤ vn ∧ iv = .int .i64 i ∧ gv = .int .i64 gt ∧ Hid (HSt (K k).C cargo n sZ vZ i S' V' gt) ∧ Hid (MR ⟨(k : Int), t, l, ⟨b1, vn, e1, S'⟩, ⟨b2, vn, e2, rZ⟩, ⟨b3, vn, e3, mZ⟩, ⟨b4, vn, e4, V'⟩, g, d, o⟩ B (B + 2) X [(B, boxOf ⟨(k : Int), t, l, ⟨sa, vn, sc, sZ⟩, ⟨ra, vn, rc, rZ⟩, ⟨ma, vn, mc, mZ⟩, ⟨va, vn, vc, vZ⟩, g, d, o⟩), (B + 1, zeroBox)] w wr)) (fun _ iv _ => vn - (intOf iv).toNat)
    case atStart => exact ⟨0, sZ, vZ, 0, Nat.zero_le _, rfl, rfl, HL0, HM⟩
    case round =>
      clear HL0 HM
      obtain ⟨i, S', V', gt, hi, rfl, rfl, HS, HM⟩ := hrel
      by_cases hlt : i < vn
      · have hiv : (i : Int) < (vn : Int) := by omega
        obtain ⟨mb, moff, me, _, a0, a1⟩ := mat (HTA.out _ HM.out.below).m (j := i) (by rw [HNN.out]; exact hlt)
        obtain ⟨cg, hcg⟩ : ∃ x, (K k).C i = x := ⟨_, rfl⟩
        obtain ⟨am, ham⟩ : ∃ x, (K k).A i = x := ⟨_, rfl⟩
        rw [hcg] at a0; rw [ham] at a1
        have HM1 := hid (HM.out.cons (makeBox cg am) (by show 42 ≠ 3; decide))
        have HNM := hid ((HM1.out.ex _ (List.mem_cons_self ..)).1)
        have HM2 := hid (HM1.out.sub (E' := [(B, boxOf ⟨(k : Int), t, l, ⟨sa, vn, sc, sZ⟩, ⟨ra, vn, rc, rZ⟩, ⟨ma, vn, mc, mZ⟩, ⟨va, vn, vc, vZ⟩, g, d, o⟩), (B + 1, zeroBox)]) (fun x hx => List.mem_cons_of_mem _ hx))
        obtain ⟨Xm, hXm⟩ : ∃ Xm, wr.heap.size = Xm := ⟨_, rfl⟩
        rw [hXm] at HNM
        have HCG := hid hcg
        clear hcg ham
        go_upto_region 8 with fail
        clear a0 a1 hXm HM HM1 me
        generalize World.alloc wr _ = w6 at HM2 HNM ⊢
        have d0 : w6.cell? ⟨Xm, 0, none⟩ = some (.int .i64 cg) := cell_of_row _ Xm 0 _ _ _ HNM.out
        clear HNM
        by_cases he : cg = cargo
        rotate_left
        · have hne : (cg == cargo) = false := by simpa using he
          have HS2 := hid (HS.out.skip (by rw [HCG.out]; exact he))
          clear he
          go_wp2_with fail
          go_roundw
          case rel => exact ⟨i + 1, S', V', gt, by omega, by go_num, rfl, HS2, HM2⟩
          case measure => simp [intOf]; omega
        subst he
        obtain ⟨rfl, rfl⟩ := HS.out.fresh (N := vn) (fun j hj => HRT.out.ks.casc k HKM.out j (by rw [HNN.out]; exact hj)) hlt HCG.out
        have heq : (cg == cg) = true := by simp
        clear HS
        have hSb := HRT.out.pl.st.z i (by rw [HNN.out]; exact hlt)
        have hVb := HRT.out.pl.mo.z i (by rw [HNN.out]; exact hlt)
        have hnb := HHN.out
        dsimp only at hSb hVb
        obtain ⟨u9, hu9⟩ : ∃ x, min n (S' i) = x := ⟨_, rfl⟩
        obtain ⟨s0, hs0⟩ : ∃ x, S' i = x := ⟨_, rfl⟩
        obtain ⟨v0, hv0⟩ : ∃ x, V' i = x := ⟨_, rfl⟩
        obtain ⟨vs, hvs⟩ : ∃ x, v0 + u9 = x := ⟨_, rfl⟩
        obtain ⟨v9, hv9⟩ : ∃ x, min vs 1000000 = x := ⟨_, rfl⟩
        obtain ⟨s9, hs9⟩ : ∃ x, s0 - u9 = x := ⟨_, rfl⟩
        have HU := hid hu9
        rw [hs0] at hSb hu9; rw [hv0] at hVb
        have hmi : ∀ (w : World) (ts : Array TypeId) (t : TypeId), (Builtin.min_ ts t #[.int .i64 n, .int .i64 s0]).run Try.prog w = .ok (.int .i64 u9) w := min_is hu9
        have hmj : ∀ (w : World) (ts : Array TypeId) (t : TypeId), (Builtin.min_ ts t #[.int .i64 vs, .int .i64 1000000]).run Try.prog w = .ok (.int .i64 v9) w := min_is hv9
        have hw9 : IntKind.i64.wrap (s0 - u9) = s9 := by rw [IntKind.wrap_i64]; omega
        have hw8 : IntKind.i64.wrap (v0 + u9) = vs := by rw [IntKind.wrap_i64]; omega
        have HS0 := hid hs0; have HV0 := hid hv0; have HS9 := hid hs9; have HV9 := hid hv9; have HVS := hid hvs; have HLT := hid hlt
        obtain ⟨g1, y1, f1, _, _⟩ := HM2.out.r4.st.form (show 0 < vn by omega)
        obtain ⟨g4, y4, f4, _, _⟩ := HM2.out.r4.mo.form (show 0 < vn by omega)
        obtain ⟨rfl, rfl⟩ : b1 = some ⟨g1, 0, none⟩ ∧ e1 = y1 := by simpa using f1
        obtain ⟨rfl, rfl⟩ : b4 = some ⟨g4, 0, none⟩ ∧ e4 = y4 := by simpa using f4
        obtain ⟨sb, soff, se, _, j3⟩ := iat (HPB.out _ HM2.out.below).st (j := i) hlt
        obtain ⟨vb, voff, ve, _, j6⟩ := iat (HPB.out _ HM2.out.below).mo (j := i) hlt
        dsimp only at se ve j3 j6
        subst se; subst ve
        rw [hs0] at j3; rw [hv0] at j6
        have HO := hid ((HM2.out.ex (B, boxOf ⟨(k : Int), t, l, ⟨some ⟨sb, soff, none⟩, vn, sc, S'⟩, ⟨ra, vn, rc, rZ⟩, ⟨ma, vn, mc, mZ⟩, ⟨some ⟨vb, voff, none⟩, vn, vc, V'⟩, g, d, o⟩) (by simp)).1)
        have o3 : w6.cell? ⟨B, 3, none⟩ = some (.slice (some ⟨sb, soff, none⟩) vn sc) := cell_of_row _ B 3 _ _ _ HO.out
        clear hSb hVb hnb hs0 hv0 hv9 hs9 hvs hu9 f1 f4 j6 hlt
        go_upto_region 10 with fail
        clear hmi d0 j3 o3 heq HO
        have p3 := HM2.out.c3
        have q3 : w6.cell? ⟨g1, i, none⟩ = some (.int .i64 s0) := by have h := RowI.at HM2.out.r4.st HLT.out; dsimp only at h; rw [HS0.out] at h; exact h
        have f3 : w6.frozen? ⟨g1, i, none⟩ = false := World.ownsRow.frozenAt HM2.out.r4.st i
        go_upto_region 11 with fail
        have HM3 : Hid (MR ⟨(k : Int), t, l, ⟨some ⟨g1, 0, none⟩, vn, e1, setF S' i s9⟩, ⟨b2, vn, e2, rZ⟩, ⟨b3, vn, e3, mZ⟩, ⟨some ⟨g4, 0, none⟩, vn, e4, V'⟩, g, d, o⟩ B (B + 2) X [(B, boxOf ⟨(k : Int), t, l, ⟨some ⟨sb, soff, none⟩, vn, sc, S'⟩, ⟨ra, vn, rc, rZ⟩, ⟨ma, vn, mc, mZ⟩, ⟨some ⟨vb, voff, none⟩, vn, vc, V'⟩, g, d, o⟩), (B + 1, zeroBox)] w _) := hid (HM2.out.put_st rfl i s9)
        clear p3 q3 f3 HM2 hw9
        generalize World.setCell w6 _ _ = w7 at HM3 ⊢
        have p6 := HM3.out.c6
        have HO := hid ((HM3.out.ex (B, boxOf ⟨(k : Int), t, l, ⟨some ⟨sb, soff, none⟩, vn, sc, S'⟩, ⟨ra, vn, rc, rZ⟩, ⟨ma, vn, mc, mZ⟩, ⟨some ⟨vb, voff, none⟩, vn, vc, V'⟩, g, d, o⟩) (by simp)).1)
        have o6 : w7.cell? ⟨B, 6, none⟩ = some (.slice (some ⟨vb, voff, none⟩) vn vc) := cell_of_row _ B 6 _ _ _ HO.out
        obtain ⟨vb', voff', ve, _, j6⟩ := iat (HPB.out _ HM3.out.below).mo (j := i) HLT.out
        cases ve
        dsimp only at j6
        rw [HV0.out] at j6
        have q6 : w7.cell? ⟨g4, i, none⟩ = some (.int .i64 v0) := by have h := RowI.at HM3.out.r4.mo HLT.out; dsimp only at h; rw [HV0.out] at h; exact h
        have f6 : w7.frozen? ⟨g4, i, none⟩ = false := World.ownsRow.frozenAt HM3.out.r4.mo i
        have HM4 := hid ((HM3.out.put_mo rfl i v9).stays ((Below.refl _ _).drew))
        clear HO
        have HS2 : Hid (HSt (K k).C cg n S' V' (i + 1) (setF S' i s9) (setF V' i v9) u9) := hid (Or.inr ⟨i, by omega, HCG.out, HU.out.symm, by rw [HU.out, HS0.out, HS9.out], by rw [HU.out, HV0.out, HVS.out, HV9.out]⟩)
        have HM5 : Hid (MR ⟨(k : Int), t, l, ⟨some ⟨g1, 0, none⟩, vn, e1, setF S' i s9⟩, ⟨b2, vn, e2, rZ⟩, ⟨b3, vn, e3, mZ⟩, ⟨some ⟨g4, 0, none⟩, vn, e4, setF V' i v9⟩, g, d, o⟩ B (B + 2) X [(B, boxOf ⟨(k : Int), t, l, ⟨some ⟨sb, soff, none⟩, vn, sc, S'⟩, ⟨ra, vn, rc, rZ⟩, ⟨ma, vn, mc, mZ⟩, ⟨some ⟨vb, voff, none⟩, vn, vc, V'⟩, g, d, o⟩), (B + 1, zeroBox)] w _) := HM4
        clear HM4 HM3
        clear hmj
        have hv9 := HV9.out
        by_cases hbig : (1000000 : Int) < vs
        · obtain rfl : v9 = 1000000 := by omega
          clear hv9
          go_region_with fail
          all_goals go_wp2_with fail
          all_goals go_roundw
          all_goals (first | exact ⟨i + 1, _, _, u9, by have := HLT.out; omega, by go_num, rfl, HS2, HM5⟩ | (have := HLT.out; simp [intOf]; omega))
        · obtain rfl : v9 = vs := by omega
          clear hv9
          go_region_with fail
          all_goals go_wp2_with fail
          all_goals go_roundw
          all_goals (first | exact ⟨i + 1, _, _, u9, by have := HLT.out; omega, by go_num, rfl, HS2, HM5⟩ | (have := HLT.out; simp [intOf]; omega))
      · obtain rfl : vn = i := by omega
        have m0 := HM.out.c0
        have m1 := HM.out.c1
        have m2 := HM.out.c2
        have m3 := HM.out.c3
        have m4 := HM.out.c4
        have m5 := HM.out.c5
        have m6 := HM.out.c6
        have m7 := HM.out.c7
        have m8 := HM.out.c8
        have m9 := HM.out.c9
        have HY := HM.out.ex (B + 1, zeroBox) (by simp)
        have r0 : wr.cell? ⟨B + 1, 0, none⟩ = some (.int .i64 0) := cell_of_row _ (B + 1) 0 _ _ _ HY.1
        have r1 : wr.cell? ⟨B + 1, 1, none⟩ = some (.int .i64 0) := cell_of_row _ (B + 1) 1 _ _ _ HY.1
        have r2 : wr.cell? ⟨B + 1, 2, none⟩ = some (.int .i64 0) := cell_of_row _ (B + 1) 2 _ _ _ HY.1
        have r3 : wr.cell? ⟨B + 1, 3, none⟩ = some (.slice none 0 0) := cell_of_row _ (B + 1) 3 _ _ _ HY.1
        have r4 : wr.cell? ⟨B + 1, 4, none⟩ = some (.slice none 0 0) := cell_of_row _ (B + 1) 4 _ _ _ HY.1
        have r5 : wr.cell? ⟨B + 1, 5, none⟩ = some (.slice none 0 0) := cell_of_row _ (B + 1) 5 _ _ _ HY.1
        have r6 : wr.cell? ⟨B + 1, 6, none⟩ = some (.slice none 0 0) := cell_of_row _ (B + 1) 6 _ _ _ HY.1
        have r7 : wr.cell? ⟨B + 1, 7, none⟩ = some (.int .i64 0) := cell_of_row _ (B + 1) 7 _ _ _ HY.1
        have r8 : wr.cell? ⟨B + 1, 8, none⟩ = some (.int .i64 0) := cell_of_row _ (B + 1) 8 _ _ _ HY.1
        have r9 : wr.cell? ⟨B + 1, 9, none⟩ = some (.bool false) := cell_of_row _ (B + 1) 9 _ _ _ HY.1
        have fr : ∀ j, wr.frozen? ⟨B + 1, j, none⟩ = false := fun j => frozen_of_row _ (B + 1) j _ _ HY.1
        clear HY
        go_wp2_with fail
        obtain ⟨k1, k2, k3⟩ := HM.out.out (Y := B + 1) (by simp) trivial
        clear r0 r1 r2 r3 r4 r5 r6 r7 r8 r9 fr m0 m1 m2 m3 m4 m5 m6 m7 m8 m9
        generalize World.setCell (World.setCell _ _ _) _ _ = w9 at k1 k2 k3 ⊢
        have q0 : w9.cell? ⟨B + 1, 0, none⟩ = some (.int .i64 (k : Int)) := cell_of_row _ (B + 1) 0 _ _ _ k2
        have q1 : w9.cell? ⟨B + 1, 1, none⟩ = some (.int .i64 t) := cell_of_row _ (B + 1) 1 _ _ _ k2
        have q2 : w9.cell? ⟨B + 1, 2, none⟩ = some (.int .i64 l) := cell_of_row _ (B + 1) 2 _ _ _ k2
        have q3 : w9.cell? ⟨B + 1, 3, none⟩ = some (.slice b1 vn e1) := cell_of_row _ (B + 1) 3 _ _ _ k2
        have q4 : w9.cell? ⟨B + 1, 4, none⟩ = some (.slice b2 vn e2) := cell_of_row _ (B + 1) 4 _ _ _ k2
        have q5 : w9.cell? ⟨B + 1, 5, none⟩ = some (.slice b3 vn e3) := cell_of_row _ (B + 1) 5 _ _ _ k2
        have q6 : w9.cell? ⟨B + 1, 6, none⟩ = some (.slice b4 vn e4) := cell_of_row _ (B + 1) 6 _ _ _ k2
        have q7 : w9.cell? ⟨B + 1, 7, none⟩ = some (.int .i64 g) := cell_of_row _ (B + 1) 7 _ _ _ k2
        have q8 : w9.cell? ⟨B + 1, 8, none⟩ = some (.int .i64 d) := cell_of_row _ (B + 1) 8 _ _ _ k2
        have q9 : w9.cell? ⟨B + 1, 9, none⟩ = some (.bool o) := cell_of_row _ (B + 1) 9 _ _ _ k2
        refine bodyPost_ret (v := .tuple #[.agg #[.int .i64 (k : Int), .int .i64 t, .int .i64 l, .slice b1 vn e1, .slice b2 vn e2, .slice b3 vn e3, .slice b4 vn e4, .int .i64 g, .int .i64 d, .bool o], .int .i64 gt, .int .i64 0]) (by simp [results, Try.results25, go_sem, q0, q1, q2, q3, q4, q5, q6, q7, q8, q9]) rfl ?_
        rcases HS.out with ⟨rfl, rfl, rfl, hno⟩ | ⟨j, hj, hcj, hg, hS, hV⟩
        · obtain ⟨rfl, rfl, rfl⟩ : D = _ ∧ u = 0 ∧ r = 0 := HR.out.no k rfl HF.out (fun j hj => hno j (by rw [← HNN.out]; exact hj))
          exact ⟨⟨(k : Int), t, l, ⟨b1, vn, e1, S'⟩, ⟨b2, vn, e2, rZ⟩, ⟨b3, vn, e3, mZ⟩, ⟨b4, vn, e4, V'⟩, g, d, o⟩, rfl, ⟨rfl, rfl, rfl, ⟨HNN.out.symm, fun j hj => rfl⟩, ⟨HNN.out.symm, fun j hj => rfl⟩, ⟨HNN.out.symm, fun j hj => rfl⟩, ⟨HNN.out.symm, fun j hj => rfl⟩, rfl, rfl, rfl⟩, k3, k1⟩
        · obtain ⟨rfl, hu, rfl⟩ := HR.out.yes k rfl HF.out j (by rw [HNN.out]; exact hj) hcj
          obtain rfl : gt = u := hg.trans hu.symm
          subst hS; subst hV
          exact ⟨⟨(k : Int), t, l, ⟨b1, vn, e1, _⟩, ⟨b2, vn, e2, rZ⟩, ⟨b3, vn, e3, mZ⟩, ⟨b4, vn, e4, _⟩, g, d, o⟩, rfl, ⟨rfl, rfl, rfl, ⟨HNN.out.symm, fun j hj => rfl⟩, ⟨HNN.out.symm, fun j hj => rfl⟩, ⟨HNN.out.symm, fun j hj => rfl⟩, ⟨HNN.out.symm, fun j hj => rfl⟩, rfl, rfl, rfl⟩, k3, k1⟩
  · skip
    have hf0 : (f != 0) = true := by simpa using h0
    obtain ⟨rfl, rfl, rfl⟩ : D = zeroD ∧ u = 0 ∧ r = f := by have h := HR.out.bad (by rw [HF.out]; exact h0); rw [HF.out] at h; exact h
    go_enter Try.func25, Try.ntmps25
    go_upto_region 1 with fail
    generalize World.alloc (World.alloc w _) _ = w1 at H0 ⊢
    have c0 := H0.out.c0; have c1 := H0.out.c1; have c2 := H0.out.c2; have c3 := H0.out.c3; have c4 := H0.out.c4; have c5 := H0.out.c5; have c6 := H0.out.c6; have c7 := H0.out.c7; have c8 := H0.out.c8; have c9 := H0.out.c9; have fb := H0.out.fb
    go_upto_region 2 with (go_at_call 45; refine (HV.out _ (HKB.out _ H0.out.below) H0.out.lists).mono ?_; rintro e w2 ⟨rfl, hb⟩; have H1 := hid (H0.out.stays hb); clear c0 c1 c2 c3 c4 c5 c6 c7 c8 c9 fb; clear hb)
    clear H0
    have r0 := H1.out.r0; have r1 := H1.out.r1; have r2 := H1.out.r2; have r3 := H1.out.r3; have r4 := H1.out.r4; have r5 := H1.out.r5; have r6 := H1.out.r6; have r7 := H1.out.r7; have r8 := H1.out.r8; have r9 := H1.out.r9; have fr := H1.out.fr
    go_wp2_with fail
    have k1 := set10_below (g := B + 1) H1.out.below (Nat.le_succ _) (.int .i64 0) (.int .i64 0) (.int .i64 0) (.slice none 0 0) (.slice none 0 0) (.slice none 0 0) (.slice none 0 0) (.int .i64 0) (.int .i64 0) (.bool false)
    have k2 := set10 H1.out.br (.int .i64 0) (.int .i64 0) (.int .i64 0) (.slice none 0 0) (.slice none 0 0) (.slice none 0 0) (.slice none 0 0) (.int .i64 0) (.int .i64 0) (.bool false)
    have k3 : True := trivial
    clear r0 r1 r2 r3 r4 r5 r6 r7 r8 r9 fr
    generalize World.setCell (World.setCell _ _ _) _ _ = w9 at k1 k2 k3 ⊢
    have q0 : w9.cell? ⟨B + 1, 0, none⟩ = some (.int .i64 0) := cell_of_row _ (B + 1) 0 _ _ _ k2
    have q1 : w9.cell? ⟨B + 1, 1, none⟩ = some (.int .i64 0) := cell_of_row _ (B + 1) 1 _ _ _ k2
    have q2 : w9.cell? ⟨B + 1, 2, none⟩ = some (.int .i64 0) := cell_of_row _ (B + 1) 2 _ _ _ k2
    have q3 : w9.cell? ⟨B + 1, 3, none⟩ = some (.slice none 0 0) := cell_of_row _ (B + 1) 3 _ _ _ k2
    have q4 : w9.cell? ⟨B + 1, 4, none⟩ = some (.slice none 0 0) := cell_of_row _ (B + 1) 4 _ _ _ k2
    have q5 : w9.cell? ⟨B + 1, 5, none⟩ = some (.slice none 0 0) := cell_of_row _ (B + 1) 5 _ _ _ k2
    have q6 : w9.cell? ⟨B + 1, 6, none⟩ = some (.slice none 0 0) := cell_of_row _ (B + 1) 6 _ _ _ k2
    have q7 : w9.cell? ⟨B + 1, 7, none⟩ = some (.int .i64 0) := cell_of_row _ (B + 1) 7 _ _ _ k2
    have q8 : w9.cell? ⟨B + 1, 8, none⟩ = some (.int .i64 0) := cell_of_row _ (B + 1) 8 _ _ _ k2
    have q9 : w9.cell? ⟨B + 1, 9, none⟩ = some (.bool false) := cell_of_row _ (B + 1) 9 _ _ _ k2
    refine bodyPost_ret (v := .tuple #[.agg #[.int .i64 0, .int .i64 0, .int .i64 0, .slice none 0 0, .slice none 0 0, .slice none 0 0, .slice none 0 0, .int .i64 0, .int .i64 0, .bool false], .int .i64 0, .int .i64 r]) (by simp [results, Try.results25, go_sem, q0, q1, q2, q3, q4, q5, q6, q7, q8, q9]) rfl ?_
    exact ⟨zeroP, rfl, zero_is, zero_r4 _ _, k1⟩
end Go.Proofs.Ytnhkblkijiipeaa
