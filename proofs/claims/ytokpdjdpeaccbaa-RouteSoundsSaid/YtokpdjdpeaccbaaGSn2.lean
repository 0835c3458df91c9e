/-
  The walks of the reference's Sound and of the law RouteSounds.
-/
import Derived.Test.YtokpdjdpeaccbaaGSnd
namespace Go.Proofs.Ytokpdjdpeaccbaa
open Go.RowKit

set_option maxRecDepth 100000 in
set_option maxHeartbeats 6400000 in
theorem rsound_any (n to_ : Int) (eo : Option Addr) (m ec : Nat) (E : Nat → Ed) (hm : m ≤ 1000000) (zo : Option Addr) (k zc : Nat) (Z : Nat → Int) (hk : k ≤ 1000000) (w : World) (hE : Eds w eo m E) (hZ : Ints w zo k Z) :
    Calls Try.prog 29 #[.int .i64 n, .slice eo m ec, .int .i64 to_, .slice zo k zc] w fun e w' => e = .returned (SndP n m E to_ k Z) ∧ Below w.heap.size w w' := by
  obtain ⟨B, hB⟩ : ∃ B, w.heap.size = B := ⟨_, rfl⟩
  have HBW := hid hB
  have HE : Hid (∀ wr, Below B w wr → Eds wr eo m E) := hid (fun wr hb => hE.stays (by rw [hB]; exact hb))
  have HZ : Hid (∀ wr, Below B w wr → Ints wr zo k Z) := hid (fun wr hb => hZ.stays (by rw [hB]; exact hb))
  have HB1 : Hid (Below B w (w.alloc (.cells #[.int .i64 to_] 3))) := hid (by rw [← hB]; exact (Below.refl _ _).alloc (Nat.le_refl _) _)
  have HI := hid (one_int to_ w)
  rw [hB] at HI
  rw [hB]
  clear hE hZ
  go_enter Try.func29, Try.ntmps29
  go_wp2_with fail
  clear hB
  refine (guessed_any n eo m ec E (some ⟨B, 0, none⟩) 1 1 (fun _ => to_) (by omega) zo k zc Z hk _ (HE.out _ HB1.out) HI.out (HZ.out _ HB1.out)).mono ?_
  rintro e w2 ⟨rfl, hb2⟩
  have HB2 := hid (HB1.out.trans (hb2.mono (by rw [← HBW.out]; exact HB1.out.size)))
  have HP : Hid (∀ b r, (decide (GErr n m E 1 (fun _ => to_) k Z = 0) && sndOk m E to_ Z) = b → GErr n m E 1 (fun _ => to_) k Z = r → SndP n m E to_ k Z = .tuple #[.bool b, .int .i64 r]) := hid (fun b r h h' => by unfold SndP; rw [h, h'])
  have HG : Hid (GErr n m E 1 (fun _ => to_) k Z = 0 → GOk n m E 1 (fun _ => to_) k Z) := hid (fun h => GOk.of h)
  obtain ⟨v, hv⟩ : ∃ v, GErr n m E 1 (fun _ => to_) k Z = v := ⟨_, rfl⟩
  rw [hv] at HP HG ⊢
  clear hb2 HI HB1
  by_cases hv0 : v = 0
  · subst hv0
    have hok := HG.out rfl
    obtain ⟨t, ht, htk⟩ := hok.nd 0 (by omega)
    have ht' : to_ = (t : Int) := ht
    clear ht
    subst ht'
    have HOK := hid hok
    clear hok
    go_wp2_with fail
    go_loopw [24] (fun iv wr => ∃ i : Nat, i ≤ m ∧ iv = .int .i64 i ∧ Hid ((∀ j, j < i → overE Z (E j) = false) ∧ Below B w wr)) (fun iv _ => m - (intOf iv).toNat)
    case atStart => exact ⟨0, Nat.zero_le _, rfl, hid ⟨fun j hj => by omega, HB2.out⟩⟩
    case round =>
      clear HB2
      obtain ⟨i, hi, rfl, HS⟩ := hrel
      by_cases hlt : i < m
      · obtain ⟨b, off, e, hbl, a0, a1, a2⟩ := HE.out wr HS.out.2 i hlt
        subst e
        obtain ⟨u, v, he, hu, hv, hc1, hc2⟩ := HOK.out.ed i hlt
        obtain ⟨c, hc⟩ : ∃ c, (E i).c = c := ⟨_, rfl⟩
        rw [hc] at he hc1 hc2
        rw [he] at a0 a1 a2
        simp only at a0 a1 a2
        obtain ⟨zb, zf, e, hzl, c0⟩ := HZ.out wr HS.out.2 u hu
        obtain ⟨_, _, e', _, c1⟩ := HZ.out wr HS.out.2 v hv
        subst e
        cases e'
        simp only at c0 c1
        have z0 := HOK.out.gs u hu
        have z1 := HOK.out.gs v hv
        obtain ⟨zu, hzu⟩ : ∃ x, Z u = x := ⟨_, rfl⟩
        obtain ⟨zv, hzv⟩ : ∃ x, Z v = x := ⟨_, rfl⟩
        have HO : Hid (overE Z (E i) = decide (c + zv < zu)) := hid (by rw [he]; simp only [overE, Int.toNat_natCast, hzu, hzv])
        rw [hzu] at c0 z0
        rw [hzv] at c1 z1
        have hw : IntKind.i64.wrap (c + zv) = c + zv := by rw [IntKind.wrap_i64]; omega
        have hBs : B ≤ wr.heap.size := by rw [← HBW.out]; exact HS.out.2.size
        have hba : Below wr.heap.size wr (wr.alloc (.cells #[.int .i64 (u : Int), .int .i64 (v : Int), .int .i64 c] 41)) := (Below.refl _ _).alloc (Nat.le_refl _) _
        have HB3 := hid (HS.out.2.trans (hba.mono hBs))
        have c0' := (hba.cell (p := ⟨zb, zf + u, none⟩) hzl).trans c0
        have c1' := (hba.cell (p := ⟨zb, zf + v, none⟩) hzl).trans c1
        have HN := hid (heap_new wr (.cells #[.int .i64 (u : Int), .int .i64 (v : Int), .int .i64 c] 41))
        have HC := hid (And.intro c0' c1')
        clear hba c0 c1 c0' c1' hzu hzv hc he hBs
        go_upto_region 7 with fail
        clear a0 a1 a2
        obtain ⟨c0, c1⟩ := HC.out
        clear HC
        obtain ⟨X, hX⟩ : ∃ X, wr.heap.size = X := ⟨_, rfl⟩
        rw [hX] at HN ⊢
        generalize wr.alloc _ = w4 at HN HB3 c0 c1 ⊢
        have d0 := cell_of_row w4 X 0 _ _ _ HN.out
        have d1 := cell_of_row w4 X 1 _ _ _ HN.out
        have d2 := cell_of_row w4 X 2 _ _ _ HN.out
        simp only [List.getElem?_toArray, List.getElem?_cons_zero, List.getElem?_cons_succ] at d0 d1 d2
        go_region_held3 (fun w' => w'.cell? ⟨X, 0, none⟩ = some (.int .i64 (u : Int)) ∧ w'.cell? ⟨X, 1, none⟩ = some (.int .i64 (v : Int)) ∧ w'.cell? ⟨X, 2, none⟩ = some (.int .i64 c) ∧ w'.cell? ⟨zb, zf + u, none⟩ = some (.int .i64 zu) ∧ w'.cell? ⟨zb, zf + v, none⟩ = some (.int .i64 zv))
          (go_keep)
          (fail)
        by_cases hov : c + zv < zu
        · have HR := hid (HP.out false 0 (by simp only [decide_true, sndOk, anyP_yes (p := fun i => overE Z (E i)) hlt (HO.out.trans (decide_eq_true hov)), Bool.not_true, Bool.and_false]) rfl)
          rw [decide_eq_true hov]
          go_wp2_with fail
          go_ret2
          exact ⟨by rw [HR.out]; rfl, HB3.out.drew⟩
        · have HD := hid (snoc_no (p := fun i => overE Z (E i)) HS.out.1 (HO.out.trans (decide_eq_false hov)))
          rw [decide_eq_false hov]
          go_wp2_with fail
          go_roundw
          case rel => exact ⟨i + 1, by omega, by go_num, hid ⟨HD.out, HB3.out.drew⟩⟩
          case measure => simp [intOf]; omega
      · obtain rfl : m = i := by omega
        obtain ⟨zb, zf, e, hzl, c0⟩ := HZ.out wr HS.out.2 t htk
        subst e
        simp only at c0
        have z0 := HOK.out.gs t htk
        have HA := hid (anyP_no (p := fun i => overE Z (E i)) HS.out.1)
        by_cases hz0 : Z t = 0
        · have HR := hid (HP.out true 0 (by simp only [decide_true, Bool.true_and, sndOk, Int.toNat_natCast, HA.out, decide_eq_true (show Z t ≤ 0 by omega), Bool.not_false]) rfl)
          rw [hz0] at c0
          go_wp2_with fail
          go_ret2
          exact ⟨by rw [HR.out]; rfl, HS.out.2⟩
        · have HR := hid (HP.out false 0 (by simp only [decide_true, Bool.true_and, sndOk, Int.toNat_natCast, decide_eq_false (show ¬ Z t ≤ 0 by omega), Bool.false_and]) rfl)
          have hzb : (Z t == 0) = false := by simpa using hz0
          go_wp2_with fail
          go_ret2
          refine ⟨?_, HS.out.2⟩
          rw [HR.out]
          first | rfl | simp [hzb, hz0]
  · have hb0 : (v == 0) = false := by simpa using hv0
    have HR := hid (HP.out false v (by rw [decide_eq_false hv0]; rfl) rfl)
    clear hv HP HG
    go_wp2_with fail
    go_ret2
    exact ⟨by rw [HR.out]; rfl, HB2.out⟩
theorem large_one (m ec k zc : Nat) (eo zo lo : Option Addr) (b : Bool) (h : decide (5000 < max m k) = b) (w : World) (hV : Vals w lo 1 (fun _ => .slice zo k zc)) : Calls Try.prog 16 #[.slice eo m ec, .slice lo 1 1] w fun e w' => e = .returned (.bool b) ∧ Below w.heap.size w w' :=
  (large_any m ec 1 1 eo lo (fun _ => zo) (fun _ => k) (fun _ => zc) (by omega) w hV).mono fun e w' hp => ⟨hp.1.trans (by rw [← h, lrg_succ]; rfl), hp.2⟩
set_option maxRecDepth 100000 in
set_option maxHeartbeats 6400000 in
theorem walk_sounds (n to_ : Int) (eo : Option Addr) (m ec : Nat) (E : Nat → Ed) (zo : Option Addr) (k zc : Nat) (Z : Nat → Int) (w : World) (hE : Eds w eo m E) (hZ : Ints w zo k Z) :
    Calls Try.prog 9 #[.int .i64 n, .slice eo m ec, .int .i64 to_, .slice zo k zc] w fun e w' => e = .returned (.bool true) ∧ Below w.heap.size w w' := by
  obtain ⟨B, hB⟩ : ∃ B, w.heap.size = B := ⟨_, rfl⟩
  have HBW := hid hB
  have HE : Hid (∀ wr, Below B w wr → Eds wr eo m E) := hid (fun wr hb => hE.stays (by rw [hB]; exact hb))
  have HZ : Hid (∀ wr, Below B w wr → Ints wr zo k Z) := hid (fun wr hb => hZ.stays (by rw [hB]; exact hb))
  have HB1 : Hid (Below B w (w.alloc (.cells #[.slice zo k zc] 28))) := hid (by rw [← hB]; exact (Below.refl _ _).alloc (Nat.le_refl _) _)
  have HV : Hid (Vals (w.alloc (.cells #[.slice zo k zc] 28)) (some ⟨B, 0, none⟩) 1 (fun _ => .slice zo k zc)) := hid (fun j hj => by
    obtain rfl : j = 0 := by omega
    exact ⟨B, 0, rfl, by simp; omega, by rw [← hB]; exact cell_of_row _ _ 0 _ _ _ (heap_new w _)⟩)
  rw [hB]
  clear hE hZ
  by_cases hm : 5000 < max m k
  · have H := hid (decide_eq_true hm)
    clear hm
    go_enter Try.func9, Try.ntmps9
    go_wp2_with fail
    refine (large_one m ec k zc eo zo _ true H.out _ HV.out).mono ?_
    rintro e w2 ⟨rfl, hb2⟩
    have HB2 := hid (HB1.out.trans (hb2.mono (by rw [← HBW.out]; exact HB1.out.size)))
    clear hb2
    go_wp2_with fail
    refine (known_any w2).mono ?_
    rintro e w3 ⟨rfl, hb3⟩
    have HB3 := hid (HB2.out.trans (hb3.mono (by rw [← HBW.out]; exact HB2.out.size)))
    clear hb3
    go_wp2_with fail
    go_ret
    exact ⟨rfl, HB3.out⟩
  · have H := hid (decide_eq_false hm)
    have hm' : m ≤ 1000000 := by omega
    have hk' : k ≤ 1000000 := by omega
    clear hm
    have HQ1 := hid (fun (W : World) (hW : Below B w W) => sound_any n to_ eo m ec E hm' zo k zc Z hk' W (HE.out W hW) (HZ.out W hW))
    have HQ2 := hid (fun (W : World) (hW : Below B w W) => rsound_any n to_ eo m ec E hm' zo k zc Z hk' W (HE.out W hW) (HZ.out W hW))
    unfold SndP at HQ1 HQ2
    obtain ⟨r, hr⟩ : ∃ r, GErr n m E 1 (fun _ => to_) k Z = r := ⟨_, rfl⟩
    rw [hr] at HQ1 HQ2
    obtain ⟨q, hq⟩ : ∃ q, (decide (r = 0) && sndOk m E to_ Z) = q := ⟨_, rfl⟩
    rw [hq] at HQ1 HQ2
    clear hr hq
    go_enter Try.func9, Try.ntmps9
    go_wp2_with fail
    refine (large_one m ec k zc eo zo _ false H.out _ HV.out).mono ?_
    rintro e w2 ⟨rfl, hb2⟩
    have HB2 := hid (HB1.out.trans (hb2.mono (by rw [← HBW.out]; exact HB1.out.size)))
    clear hb2
    go_wp2_with fail
    refine (HQ1.out w2 HB2.out).mono ?_
    rintro e w3 ⟨rfl, hb3⟩
    have HB3 := hid (HB2.out.trans (hb3.mono (by rw [← HBW.out]; exact HB2.out.size)))
    clear hb3
    go_wp2_with fail
    refine (HQ2.out w3 HB3.out).mono ?_
    rintro e w4 ⟨rfl, hb4⟩
    have HB4 := hid (HB3.out.trans (hb4.mono (by rw [← HBW.out]; exact HB3.out.size)))
    clear hb4
    go_wp2_with fail
    refine (known_any w4).mono ?_
    rintro e w5 ⟨rfl, hb5⟩
    have HB5 := hid (HB4.out.trans (hb5.mono (by rw [← HBW.out]; exact HB4.out.size)))
    clear hb5
    go_wp2_with fail
    go_ret
    exact ⟨rfl, HB5.out⟩
end Go.Proofs.Ytokpdjdpeaccbaa
