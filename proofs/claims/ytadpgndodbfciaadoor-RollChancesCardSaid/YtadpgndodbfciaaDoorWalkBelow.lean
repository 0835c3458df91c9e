/-
  The walks of Below, of the program and of the reference.
-/
import Derived.Test.YtadpgndodbfciaaDoorLawStreams
import Derived.Deep.LoopGhost
namespace Go.Proofs.YtadpgndodbfciaaDoor
open Go.RowKit

/-- Below hands back the first number that is taken, modulo n, and the stream behind it. -/
def BelowIs (a n : Int) (w : World) (e : Ending) (w' : World) : Prop :=
  ∃ k : Nat, Found a n k ∧ e = .returned (.tuple #[.int .i64 (numAt a k % n), .agg #[.int .u64 (skipTo a k)]]) ∧ Below w.heap.size w w'

/-- Two cells of the call's own, side by side, that are held through calls which only make new blocks. -/
theorem held2 {B x y : Nat} {v u : Value} {w w' w'' : World}  (hB : B ≤ x)
    (h : Below B w w' ∧ x < w'.heap.size ∧ y < w'.heap.size ∧ w'.cell? ⟨x, 0, none⟩ = some v ∧ w'.frozen? ⟨x, 0, none⟩ = false ∧ w'.cell? ⟨y, 0, none⟩ = some u ∧ w'.frozen? ⟨y, 0, none⟩ = false)
    (hb : Below w'.heap.size w' w'') :
    Below B w w'' ∧ x < w''.heap.size ∧ y < w''.heap.size ∧ w''.cell? ⟨x, 0, none⟩ = some v ∧ w''.frozen? ⟨x, 0, none⟩ = false ∧ w''.cell? ⟨y, 0, none⟩ = some u ∧ w''.frozen? ⟨y, 0, none⟩ = false := by
  obtain ⟨k, kn, km, k1, k2, k3, k4⟩ := h
  have hs := hb.size
  exact ⟨k.trans (hb.mono (by omega)), by omega, by omega, (hb.cell (p := ⟨x, 0, none⟩) kn).trans k1, (hb.frozen (p := ⟨x, 0, none⟩) kn).trans k2, (hb.cell (p := ⟨y, 0, none⟩) km).trans k3, (hb.frozen (p := ⟨y, 0, none⟩) km).trans k4⟩

/-- The first of them is written, and a new block is made. -/
theorem stored2 {B x y : Nat} {v u v' : Value} {w w' : World} {o : Obj} (hB : B ≤ x) (hxy : x ≠ y)
    (h : Below B w w' ∧ x < w'.heap.size ∧ y < w'.heap.size ∧ w'.cell? ⟨x, 0, none⟩ = some v ∧ w'.frozen? ⟨x, 0, none⟩ = false ∧ w'.cell? ⟨y, 0, none⟩ = some u ∧ w'.frozen? ⟨y, 0, none⟩ = false) :
    Below B w ((w'.setCell ⟨x, 0, none⟩ v').alloc o) ∧ x < ((w'.setCell ⟨x, 0, none⟩ v').alloc o).heap.size ∧ y < ((w'.setCell ⟨x, 0, none⟩ v').alloc o).heap.size ∧ ((w'.setCell ⟨x, 0, none⟩ v').alloc o).cell? ⟨x, 0, none⟩ = some v' ∧
      ((w'.setCell ⟨x, 0, none⟩ v').alloc o).frozen? ⟨x, 0, none⟩ = false ∧ ((w'.setCell ⟨x, 0, none⟩ v').alloc o).cell? ⟨y, 0, none⟩ = some u ∧ ((w'.setCell ⟨x, 0, none⟩ v').alloc o).frozen? ⟨y, 0, none⟩ = false := by
  obtain ⟨k, kn, km, k1, k2, k3, k4⟩ := h
  have e : (w'.setCell ⟨x, 0, none⟩ v').heap.size = w'.heap.size := World.size_setCell _ _ _
  refine ⟨(k.setCell (p := ⟨x, 0, none⟩) hB _).alloc (by rw [e]; omega) _, by rw [World.size_alloc, e]; omega, by rw [World.size_alloc, e]; omega, ?_, ?_, ?_, ?_⟩
  · rw [World.cell?_alloc_past _ _ _ (by rw [e]; exact kn)]; exact World.cell?_setCell_same _ _ _ k1
  · rw [World.frozen?_alloc_past _ _ _ (by rw [e]; exact kn)]; simpa using k2
  · rw [World.cell?_alloc_past _ _ _ (by rw [e]; exact km), World.cell?_setCell_other _ _ _ _ (by intro h; cases h; exact hxy rfl)]; exact k3
  · rw [World.frozen?_alloc_past _ _ _ (by rw [e]; exact km)]; simpa using k4

set_option maxHeartbeats 1600000 in
theorem below_any (a n : Int) (h1 : 1 ≤ n) (h2 : n ≤ 9223372036854775807) (w : World) : Calls Tryd.prog 21 #[.agg #[.int .u64 a], .int .i64 n] w (BelowIs a n w) := by
  have e1 : IntKind.u64.wrap n = n := by rw [IntKind.wrap_u64]; omega
  obtain ⟨q, hq⟩ : ∃ q, q = 18446744073709551616 + -n := ⟨_, rfl⟩
  have e2 : IntKind.u64.wrap (-n) = q := by rw [IntKind.wrap_u64, hq]; omega
  obtain ⟨r, hr⟩ : ∃ r, r = 18446744073709551616 % n := ⟨_, rfl⟩
  have e4 : q % n = r := by rw [hq, hr, rest_eq]
  have q0 : 0 ≤ q := by omega
  have l1 := lim_pos h1 h2
  have l2 := lim_le h1
  have e3 : IntKind.u64.wrap (18446744073709551615 - r) = lim n - 1 := by
    rw [IntKind.wrap_u64, hr, show 18446744073709551615 - 18446744073709551616 % n = lim n - 1 by unfold lim; omega]; omega
  clear hq hr
  obtain ⟨K, hK1, hK2⟩ := hit a
  have HK := hid (taken_zero h1 h2 hK2)
  clear hK2
  go_enter Tryd.func21, Tryd.ntmps21
  go_wp2_with fail
  obtain ⟨b, hb⟩ : ∃ b, b = w.heap.size := ⟨_, rfl⟩
  have HI : Hid (Below b w ((w.alloc (.cells #[.int .u64 a] 25)).alloc (.cells #[.int .u64 0] 25)) ∧ b < ((w.alloc (.cells #[.int .u64 a] 25)).alloc (.cells #[.int .u64 0] 25)).heap.size ∧ b + 1 < ((w.alloc (.cells #[.int .u64 a] 25)).alloc (.cells #[.int .u64 0] 25)).heap.size ∧
      ((w.alloc (.cells #[.int .u64 a] 25)).alloc (.cells #[.int .u64 0] 25)).cell? ⟨b, 0, none⟩ = some (.int .u64 a) ∧ ((w.alloc (.cells #[.int .u64 a] 25)).alloc (.cells #[.int .u64 0] 25)).frozen? ⟨b, 0, none⟩ = false ∧
      ((w.alloc (.cells #[.int .u64 a] 25)).alloc (.cells #[.int .u64 0] 25)).cell? ⟨b + 1, 0, none⟩ = some (.int .u64 0) ∧ ((w.alloc (.cells #[.int .u64 a] 25)).alloc (.cells #[.int .u64 0] 25)).frozen? ⟨b + 1, 0, none⟩ = false) := by
    subst hb
    exact ⟨Joins.below_alloc2 _ _ _, by simp; omega, by simp, by simp, by simp, by simp, by simp⟩
  have HBB := hid hb
  simp only [← hb, e4]
  clear hb
  generalize (w.alloc (.cells #[.int .u64 a] 25)).alloc (.cells #[.int .u64 0] 25) = W at *
  go_loopg [] K (fun g wr => ∃ (j : Nat) (v : Int), g + j = K ∧ j < K ∧ (∀ i : Nat, 1 ≤ i → i ≤ j → lim n ≤ numAt a i) ∧ md (v + stride) = skipTo a ((j + 1 : Nat) : Int) ∧
      (Below b w wr ∧ b < wr.heap.size ∧ b + 1 < wr.heap.size ∧ wr.cell? ⟨b, 0, none⟩ = some (.int .u64 v) ∧ wr.frozen? ⟨b, 0, none⟩ = false ∧ wr.cell? ⟨b + 1, 0, none⟩ = some (.int .u64 0) ∧ wr.frozen? ⟨b + 1, 0, none⟩ = false))
  case atStart => exact ⟨0, a, by omega, by omega, fun i hi hi' => by omega, skip_one a, HI.out⟩
  case round =>
    obtain ⟨j, v, hg, hj, hall, hv, hI⟩ := hrel
    clear HI
    obtain ⟨v', hv'⟩ : ∃ v', v' = skipTo a ((j + 1 : Nat) : Int) := ⟨_, rfl⟩
    obtain ⟨x, hx⟩ : ∃ x, x = numAt a ((j + 1 : Nat) : Int) := ⟨_, rfl⟩
    have Q1 : Hid (md (v + stride) = v') := hid (hv.trans hv'.symm)
    have Q2 : Hid (mix (md (v + stride)) = x) := hid (by rw [hv, hx]; rfl)
    have HV := hid hv'
    have HX := hid hx
    have HALL := hid hall
    have HG := hid hg
    have hx0 : 0 ≤ x := by rw [hx]; exact (mix_bd _).1
    have hx1 : x ≤ 18446744073709551615 := by rw [hx]; exact (mix_bd _).2
    clear hv hv' hx hall hg
    obtain ⟨hB, hz, hz', cb, fb, cc, fc⟩ := hI
    have HB := hid hB
    clear hB
    have c0 := cb
    go_wp2_with fail
    refine (next_to _ x v' Q1.out Q2.out _).mono ?_
    rintro e w2 ⟨rfl, hb2⟩
    obtain ⟨hB2, hz2, hz2', c2, f2, d2, g2⟩ := held2 (Nat.le_refl _) ⟨HB.out, hz, hz', cb, fb, cc, fc⟩ hb2
    have HB2 := hid hB2
    clear hB2 hb2 cb fb cc fc hz hz' c0
    by_cases hlt : x < lim n
    · have hle : x ≤ lim n - 1 := by omega
      have hm0 : 0 ≤ x % n := Int.emod_nonneg _ (by omega)
      have hm1 : x % n < n := Int.emod_lt_of_pos _ (by omega)
      clear hlt
      go_wp2_with fail
      go_region
      go_wp2
      have hcell := fun o => show ((w2.setCell ⟨b + 1, 0, none⟩ (.int .u64 v')).alloc o).cell? ⟨b + 1, 0, none⟩ = some (.int .u64 v') by
        rw [World.cell?_alloc_past _ _ _ (by rw [World.size_setCell]; exact hz2')]; exact World.cell?_setCell_same _ _ _ d2
      refine bodyPost_ret (v := .tuple #[.int .i64 (x % n), .agg #[.int .u64 v']]) ?_ rfl ?_
      · simp [results, Tryd.results21, go_sem, hcell]
      · refine ⟨j + 1, ⟨by omega, by rw [← HX.out]; omega, fun i hi hi' => HALL.out i hi (by omega)⟩, by rw [← HX.out, ← HV.out], ?_⟩
        rw [← HBB.out]
        exact ((HB2.out.setCell (p := ⟨b + 1, 0, none⟩) (Nat.le_succ b) _).alloc (by rw [World.size_setCell]; omega) _).drew
    · have hle : ¬ x ≤ lim n - 1 := by omega
      have hjK : j + 1 < K := by
        by_cases h : j + 1 = K
        · have := HK.out; rw [← h, ← HX.out] at this; omega
        · omega
      clear hlt
      go_wp2_with fail
      go_roundg (K - (j + 1))
      case measure => have := HG.out; omega
      case rel =>
        refine ⟨j + 1, v', by omega, hjK, fun i hi hi' => ?_, ?_, ?_⟩
        · by_cases h : i = j + 1
          · subst h; rw [← HX.out]; omega
          · exact HALL.out i hi (by omega)
        · rw [HV.out, skip_one, skip_skip, skipTo_eq]; congr 3
        · exact stored2 (Nat.le_refl _) (by omega) ⟨HB2.out, hz2, hz2', c2, f2, d2, g2⟩

set_option maxHeartbeats 1600000 in
theorem refbelow_any (a n : Int) (h1 : 1 ≤ n) (h2 : n ≤ 9223372036854775807) (w : World) : Calls Tryd.prog 20 #[.agg #[.int .u64 a], .int .i64 n] w (BelowIs a n w) := by
  have e1 : IntKind.u64.wrap n = n := by rw [IntKind.wrap_u64]; omega
  obtain ⟨q, hq⟩ : ∃ q, q = IntKind.u64.wrap (18446744073709551615 % n + 1) := ⟨_, rfl⟩
  obtain ⟨r, hr⟩ : ∃ r, r = 18446744073709551616 % n := ⟨_, rfl⟩
  have hm0 := Int.emod_nonneg 18446744073709551615 (show n ≠ 0 by omega)
  have hm1 := Int.emod_lt_of_pos 18446744073709551615 (show 0 < n by omega)
  have hr0 : 0 ≤ r := by rw [hr]; exact Int.emod_nonneg _ (by omega)
  have hr1 : r < n := by rw [hr]; exact Int.emod_lt_of_pos _ (by omega)
  have hq' : q = 18446744073709551615 % n + 1 := by rw [hq, IntKind.wrap_u64]; omega
  have e4 : q % n = r := by rw [hq', hr, over_eq]
  have q0 : 0 ≤ q := by omega
  have l1 := lim_pos h1 h2
  have l2 := lim_le h1
  have hlr : lim n = 18446744073709551616 - r := by unfold lim; rw [hr]
  have e2 := hq.symm
  obtain ⟨K, hK1, hK2⟩ := hit a
  have HK := hid (taken_zero h1 h2 hK2)
  have HLR := hid hlr
  clear hK2 hq hr hq' hm0 hm1 hlr
  go_enter Tryd.func20, Tryd.ntmps20
  go_wp2_with fail
  obtain ⟨b, hb⟩ : ∃ b, b = w.heap.size := ⟨_, rfl⟩
  have HI : Hid (Below b w ((w.alloc (.cells #[.int .u64 a] 25)).alloc (.cells #[.int .u64 0] 25)) ∧ b < ((w.alloc (.cells #[.int .u64 a] 25)).alloc (.cells #[.int .u64 0] 25)).heap.size ∧ b + 1 < ((w.alloc (.cells #[.int .u64 a] 25)).alloc (.cells #[.int .u64 0] 25)).heap.size ∧
      ((w.alloc (.cells #[.int .u64 a] 25)).alloc (.cells #[.int .u64 0] 25)).cell? ⟨b, 0, none⟩ = some (.int .u64 a) ∧ ((w.alloc (.cells #[.int .u64 a] 25)).alloc (.cells #[.int .u64 0] 25)).frozen? ⟨b, 0, none⟩ = false ∧
      ((w.alloc (.cells #[.int .u64 a] 25)).alloc (.cells #[.int .u64 0] 25)).cell? ⟨b + 1, 0, none⟩ = some (.int .u64 0) ∧ ((w.alloc (.cells #[.int .u64 a] 25)).alloc (.cells #[.int .u64 0] 25)).frozen? ⟨b + 1, 0, none⟩ = false) := by
    subst hb
    exact ⟨Joins.below_alloc2 _ _ _, by simp; omega, by simp, by simp, by simp, by simp, by simp⟩
  have HBB := hid hb
  simp only [← hb, e4]
  clear hb
  generalize (w.alloc (.cells #[.int .u64 a] 25)).alloc (.cells #[.int .u64 0] 25) = W at *
  go_loopg [8] K (fun g kv wr => ∃ j : Nat, g + j = K ∧ j < K ∧ (∀ i : Nat, 1 ≤ i → i ≤ j → lim n ≤ numAt a i) ∧ kv = .int .u64 (md ((j + 1 : Nat) : Int)) ∧
      (Below b w wr ∧ b < wr.heap.size ∧ b + 1 < wr.heap.size ∧ wr.cell? ⟨b, 0, none⟩ = some (.int .u64 a) ∧ wr.frozen? ⟨b, 0, none⟩ = false ∧ wr.cell? ⟨b + 1, 0, none⟩ = some (.int .u64 0) ∧ wr.frozen? ⟨b + 1, 0, none⟩ = false))
  case atStart => exact ⟨0, by omega, by omega, fun i hi hi' => by omega, by rw [md_in (by omega) (by omega)]; rfl, HI.out⟩
  case round =>
    obtain ⟨j, hg, hj, hall, rfl, hI⟩ := hrel
    clear HI
    obtain ⟨kk, hk⟩ : ∃ kk, kk = md ((j + 1 : Nat) : Int) := ⟨_, rfl⟩
    obtain ⟨x, hx⟩ : ∃ x, x = numAt a ((j + 1 : Nat) : Int) := ⟨_, rfl⟩
    have hkv : md (a + md (kk * stride)) = skipTo a ((j + 1 : Nat) : Int) := by rw [hk, md_mul, skipTo_eq']
    have HKV := hid hkv
    have Q2 : Hid (mix (md (a + md (kk * stride))) = x) := hid (by rw [hkv, hx]; rfl)
    have HX := hid hx
    have HKK := hid hk
    have HALL := hid hall
    have HG := hid hg
    have hx0 : 0 ≤ x := by rw [hx]; exact (mix_bd _).1
    have hx1 : x ≤ 18446744073709551615 := by rw [hx]; exact (mix_bd _).2
    obtain ⟨hB, hz, hz', cb, fb, cc, fc⟩ := hI
    have HB := hid hB
    have c0 := cb
    rw [← hk]
    clear hkv hx hall hg hk hB
    go_wp2_with fail
    refine (at_to _ _ x Q2.out _).mono ?_
    rintro e w2 ⟨rfl, hb2⟩
    obtain ⟨hB2, hz2, hz2', c2, f2, d2, g2⟩ := held2 (Nat.le_refl _) ⟨HB.out, hz, hz', cb, fb, cc, fc⟩ hb2
    have HB2 := hid hB2
    clear hB2 hb2 cb fb cc fc hz hz' c0
    have hcell := fun v' => show (w2.setCell ⟨b + 1, 0, none⟩ v').cell? ⟨b + 1, 0, none⟩ = some v' from World.cell?_setCell_same _ _ _ d2
    have hm0 : 0 ≤ x % n := Int.emod_nonneg _ (by omega)
    have hm1 : x % n < n := Int.emod_lt_of_pos _ (by omega)
    have em : IntKind.i64.wrap (x % n) = x % n := IntWalk.i64_in _ (by omega)
    have ends : ∀ e W', e = .returned (.tuple #[.int .i64 (x % n), .agg #[.int .u64 (skipTo a ((j + 1 : Nat) : Int))]]) → x < lim n → Below b w W' → BelowIs a n w e W' := by
      intro e W' he hlt hbW
      exact ⟨j + 1, ⟨by omega, by rw [← HX.out]; exact hlt, fun i hi hi' => HALL.out i hi (by omega)⟩, by rw [← HX.out]; exact he, by rw [← HBB.out]; exact hbW⟩
    have ENDS := hid ends
    clear ends
    by_cases hr : r = 0
    · have hlt : x < lim n := by rw [HLR.out, hr]; omega
      have hr' : (r == 0) = true := by simp [hr]
      clear hr
      go_wp2_with fail
      go_region
      go_wp2
      refine bodyPost_ret (v := .tuple #[.int .i64 (x % n), .agg #[.int .u64 (IntKind.u64.wrap (a + IntKind.u64.wrap (kk * 11400714819323198485)))]]) ?_ rfl (ENDS.out _ _ (by rw [← HKV.out]; rfl) hlt ?_)
      · simp [results, Tryd.results20, go_sem, hcell]
      · exact (HB2.out.setCell (p := ⟨b + 1, 0, none⟩) (Nat.le_succ b) _).drew
    · have hr' : (r == 0) = false := by simp [hr]
      have e5 : IntKind.u64.wrap (-r) = lim n := by rw [IntKind.wrap_u64, HLR.out]; omega
      clear hr
      by_cases hlt : x < lim n
      · go_wp2_with fail
        go_region
        go_wp2
        refine bodyPost_ret (v := .tuple #[.int .i64 (x % n), .agg #[.int .u64 (IntKind.u64.wrap (a + IntKind.u64.wrap (kk * 11400714819323198485)))]]) ?_ rfl (ENDS.out _ _ (by rw [← HKV.out]; rfl) hlt ?_)
        · simp [results, Tryd.results20, go_sem, hcell]
        · exact (HB2.out.setCell (p := ⟨b + 1, 0, none⟩) (Nat.le_succ b) _).drew
      · have hjK : j + 1 < K := by
          by_cases h : j + 1 = K
          · have := HK.out; rw [← h, ← HX.out] at this; omega
          · omega
        go_wp2_with fail
        go_roundg (K - (j + 1))
        case measure => have := HG.out; omega
        case rel =>
          refine ⟨j + 1, by omega, hjK, fun i hi hi' => ?_, ?_, HB2.out, hz2, hz2', c2, f2, d2, g2⟩
          · by_cases h : i = j + 1
            · subst h; rw [← HX.out]; omega
            · exact HALL.out i hi (by omega)
          · have e : md (kk + 1) = md ((j + 1 + 1 : Nat) : Int) := by rw [HKK.out, md_md]; congr 1
            rw [← e]; rfl

end Go.Proofs.YtadpgndodbfciaaDoor
