/-
  The walk of the law PlantValidates.
-/
import Derived.Test.YtnhkblkijiipeaaFLrg
namespace Go.Proofs.Ytnhkblkijiipeaa
open Go.RowKit

theorem pb_keep {pk t l g d : Int} {sa ra ma va : Option Addr} {sn sc rn rc mn mc vn vc : Nat} {sZ rZ mZ vZ : Nat → Int} {o : Bool} {B : Nat} {w w1 w2 : World}
    (h : PB ⟨pk, t, l, ⟨sa, sn, sc, sZ⟩, ⟨ra, rn, rc, rZ⟩, ⟨ma, mn, mc, mZ⟩, ⟨va, vn, vc, vZ⟩, g, d, o⟩ B B w w1) (hb : Below w1.heap.size w1 w2) : (fun w' => PB ⟨pk, t, l, ⟨sa, sn, sc, sZ⟩, ⟨ra, rn, rc, rZ⟩, ⟨ma, mn, mc, mZ⟩, ⟨va, vn, vc, vZ⟩, g, d, o⟩ B B w w' ∧ w'.cell? ⟨B, 0, none⟩ = some (.int .i64 pk) ∧ w'.cell? ⟨B, 1, none⟩ = some (.int .i64 t) ∧ w'.cell? ⟨B, 2, none⟩ = some (.int .i64 l) ∧ w'.cell? ⟨B, 3, none⟩ = some (.slice sa sn sc) ∧ w'.cell? ⟨B, 4, none⟩ = some (.slice ra rn rc) ∧ w'.cell? ⟨B, 5, none⟩ = some (.slice ma mn mc) ∧ w'.cell? ⟨B, 6, none⟩ = some (.slice va vn vc) ∧ w'.cell? ⟨B, 7, none⟩ = some (.int .i64 g) ∧ w'.cell? ⟨B, 8, none⟩ = some (.int .i64 d) ∧ w'.cell? ⟨B, 9, none⟩ = some (.bool o)) w2 := by
  have h' := h.stays hb
  exact ⟨h', h'.c0, h'.c1, h'.c2, h'.c3, h'.c4, h'.c5, h'.c6, h'.c7, h'.c8, h'.c9⟩
set_option maxRecDepth 100000 in
set_option maxHeartbeats 12800000 in
theorem walk_validates (ko : Option Addr) (m kc : Nat) (K : Nat → Kd) (hm : m ≤ maxLen) (hcap : m ≤ kc) (p : Pl) (w : World) (hK : Kds w ko m K) (hP : PlAt w p) :
    Calls Try.prog 3 #[.slice ko m kc, pv p] w fun e w' => e = .returned (.bool true) ∧ Below w.heap.size w w' := by
  have H0 := hid (PB.start hP)
  have HKB : Hid (∀ W, Below w.heap.size w W → Kds W ko m K) := hid (fun W hb => hK.stays hb)
  have HLG := hid (fun W h => large_any ko m kc K p hm W h)
  obtain ⟨p0, hp0⟩ : ∃ p0, p = p0 := ⟨_, rfl⟩
  have HPP := hid hp0
  obtain ⟨pk, t, l, ⟨sa, sn, sc, sZ⟩, ⟨ra, rn, rc, rZ⟩, ⟨ma, mn, mc, mZ⟩, ⟨va, vn, vc, vZ⟩, g, d, o⟩ := p
  show Calls _ _ #[.slice ko m kc, .agg #[.int .i64 pk, .int .i64 t, .int .i64 l, .slice sa sn sc, .slice ra rn rc, .slice ma mn mc, .slice va vn vc, .int .i64 g, .int .i64 d, .bool o]] w _
  obtain ⟨B, hB⟩ : ∃ B, w.heap.size = B := ⟨_, rfl⟩
  rw [hB] at H0 HKB ⊢
  clear hK hP hp0
  go_enter Try.func3, Try.ntmps3
  go_upto_region 1 with fail
  clear hB
  generalize World.alloc w _ = w1 at H0 ⊢
  have c0 := H0.out.c0; have c1 := H0.out.c1; have c2 := H0.out.c2; have c3 := H0.out.c3; have c4 := H0.out.c4; have c5 := H0.out.c5; have c6 := H0.out.c6; have c7 := H0.out.c7; have c8 := H0.out.c8; have c9 := H0.out.c9
  go_wp2_with fail
  refine (HLG.out _ (HKB.out _ H0.out.below)).mono ?_
  rintro e w2 ⟨b, rfl, hsz, hb⟩
  have H1 := hid (H0.out.stays hb)
  clear hb
  clear c0 c1 c2 c3 c4 c5 c6 c7 c8 c9
  cases b
  rotate_left
  · clear hsz
    go_wp2_with fail
    refine (known_any _).mono ?_
    rintro e w3 ⟨rfl, hb⟩
    have H2 := hid (H1.out.stays hb)
    clear hb
    go_wp2_with fail
    go_ret
    exact ⟨rfl, H2.out.below⟩
  have hz := hsz rfl
  have HSM := hid hz.small
  have HSP := hid hz.plant
  have hm3 : m ≤ 1000 := by have := hz.km; omega
  clear hsz hz
  clear H0 HLG
  have c0 := H1.out.c0; have c1 := H1.out.c1; have c2 := H1.out.c2; have c3 := H1.out.c3; have c4 := H1.out.c4; have c5 := H1.out.c5; have c6 := H1.out.c6; have c7 := H1.out.c7; have c8 := H1.out.c8; have c9 := H1.out.c9
  obtain ⟨r, hr⟩ : ∃ r, PErr m K ⟨pk, t, l, ⟨sa, sn, sc, sZ⟩, ⟨ra, rn, rc, rZ⟩, ⟨ma, mn, mc, mZ⟩, ⟨va, vn, vc, vZ⟩, g, d, o⟩ = r := ⟨_, rfl⟩
  have hrr : (r == r) = true := by simp
  have HV := hid (fun W h h' => validate_any ko m kc K hm3 HSM.out ⟨pk, t, l, ⟨sa, sn, sc, sZ⟩, ⟨ra, rn, rc, rZ⟩, ⟨ma, mn, mc, mZ⟩, ⟨va, vn, vc, vZ⟩, g, d, o⟩ HSP.out r hr W h h')
  have HW := hid (fun W h h' => rvalidate_any ko m kc K hcap HSM.out ⟨pk, t, l, ⟨sa, sn, sc, sZ⟩, ⟨ra, rn, rc, rZ⟩, ⟨ma, mn, mc, mZ⟩, ⟨va, vn, vc, vZ⟩, g, d, o⟩ HSP.out r hr W h h')
  clear hr
  go_upto_region 3 with fail
  have hx := pb_keep H1.out (Below.refl _ _)
  clear c0 c1 c2 c3 c4 c5 c6 c7 c8 c9
  go_region_held3 (fun w' => PB ⟨pk, t, l, ⟨sa, sn, sc, sZ⟩, ⟨ra, rn, rc, rZ⟩, ⟨ma, mn, mc, mZ⟩, ⟨va, vn, vc, vZ⟩, g, d, o⟩ B B w w' ∧ w'.cell? ⟨B, 0, none⟩ = some (.int .i64 pk) ∧ w'.cell? ⟨B, 1, none⟩ = some (.int .i64 t) ∧ w'.cell? ⟨B, 2, none⟩ = some (.int .i64 l) ∧ w'.cell? ⟨B, 3, none⟩ = some (.slice sa sn sc) ∧ w'.cell? ⟨B, 4, none⟩ = some (.slice ra rn rc) ∧ w'.cell? ⟨B, 5, none⟩ = some (.slice ma mn mc) ∧ w'.cell? ⟨B, 6, none⟩ = some (.slice va vn vc) ∧ w'.cell? ⟨B, 7, none⟩ = some (.int .i64 g) ∧ w'.cell? ⟨B, 8, none⟩ = some (.int .i64 d) ∧ w'.cell? ⟨B, 9, none⟩ = some (.bool o))
    (first
      | exact pb_keep H1.out ((Below.refl _ _).drew)
      | exact pb_keep (And.left (by assumption)) hn1
      | exact pb_keep (And.left (by assumption)) hn2
      | exact pb_keep (And.left (by assumption)) hn3)
    (first
      | (go_at_call 15; refine (HV.out _ (HKB.out _ (PB.below (And.left (by assumption)))) (PB.lists (And.left (by assumption)))).mono ?_; rintro e w3 ⟨rfl, hn1⟩)
      | (go_at_call 16; refine (HW.out _ (HKB.out _ (PB.below (And.left (by assumption)))) (PB.lists (And.left (by assumption)))).mono ?_; rintro e w4 ⟨rfl, hn2⟩)
      | (go_at_call 14; refine (known_any _).mono ?_; rintro e w5 ⟨rfl, hn3⟩))
  all_goals go_wp2_with fail
  rename_i hh
  have HE := hid hh.1.below
  clear hh
  go_ret
  exact ⟨rfl, HE.out⟩
end Go.Proofs.Ytnhkblkijiipeaa
