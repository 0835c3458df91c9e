/-
  What water asks of land: Is, Places, Face, Sea of the reference, Water of the program.
-/
import Derived.Test.YtkpnngpnjimogaaSSlope
namespace Go.Proofs.Ytkpnngpnjimogaa
open Go.RowKit

set_option maxHeartbeats 800000 in
theorem is_any (W H : Nat) (hW : W ≤ 32) (hH : H ≤ 32) (s : Value) (t : Int) (w : World) : Calls Try.prog 37 #[lv W H s, .int .i64 t] w fun r w' => r = .returned (.bool (tileB W H t)) ∧ w.alloc (.cells #[.int .i64 W, .int .i64 H, s] 24) = w' := by
  obtain ⟨m, hm⟩ : ∃ m, m = W * H := ⟨_, rfl⟩
  have e1 : (W : Int) * (H : Int) = (m : Int) := by rw [hm]; simp
  have hm2 : m ≤ 1024 := by rw [hm]; exact mul_small hW hH
  unfold tileB
  rw [← hm]
  clear hm
  by_cases h : 0 ≤ t
  · go_enter Try.func37, Try.ntmps37
    go_wp2
    go_ret
    exact ⟨ret_bool (by simp [h]), rfl⟩
  · go_enter Try.func37, Try.ntmps37
    go_wp2
    go_ret
    exact ⟨ret_bool (by simp; omega), rfl⟩

set_option maxHeartbeats 1600000 in
theorem refplaces_any (W H : Nat) (hW1 : 1 ≤ W) (hW : W ≤ 32) (hH : H ≤ 32) (s : Value) (t : Nat) (ht : t < W * H) (w : World) : Calls Try.prog 91 #[lv W H s, .int .i64 t] w fun r w' => r = .returned (four W t) ∧ Below w.heap.size w w' := by
  have hb := nw_lt ht
  have hc : (W + 1) * (H + 1) ≤ 1089 := Nat.mul_le_mul (show W + 1 ≤ 33 by omega) (show H + 1 ≤ 33 by omega)
  have ht2 : t ≤ 1024 := by have := mul_small hW hH; omega
  obtain ⟨u, hu⟩ : ∃ u, u = t % W := ⟨_, rfl⟩
  obtain ⟨v, hv⟩ : ∃ v, v = t / W := ⟨_, rfl⟩
  obtain ⟨a, ha⟩ : ∃ a, a = v * (W + 1) := ⟨_, rfl⟩
  have e1 : (t : Int) / (W : Int) = (v : Int) := by rw [hv]; simp
  have e2 : (t : Int) % (W : Int) = (u : Int) := by rw [hu]; simp
  have e3 : (v : Int) * ((W : Int) + 1) = (a : Int) := by rw [ha]; simp
  have hn : nw W t = a + u := by unfold nw; rw [← hu, ← hv, ← ha]
  have HN := hid hn
  have hv2 : v ≤ 1024 := by rw [hv]; exact Nat.le_trans (Nat.div_le_self _ _) ht2
  have hb2 : a + u + W + 2 < 1089 := by omega
  clear hb hc ht hn hu hv ha
  have w1 : IntKind.i64.wrap (v : Int) = (v : Int) := by rw [IntKind.wrap_i64]; omega
  have w2 : IntKind.i64.wrap (a : Int) = (a : Int) := by rw [IntKind.wrap_i64]; omega
  have w3 : IntKind.i64.wrap ((a : Int) + (u : Int)) = (a : Int) + (u : Int) := by rw [IntKind.wrap_i64]; omega
  go_enter Try.func91, Try.ntmps91
  go_wp2_with fail
  go_quiet (fail)
  go_wp2
  refine bodyPost_ret (v := four W t) (by unfold four; rw [HN.out]; simp [results, Try.results91, go_sem]; try omega) rfl ⟨rfl, ?_⟩
  exact ((((((Joins.below_alloc2 _ _ _).trans (Joins.below_draws _ _ _)).setCell (Nat.le_succ _) _).setCell (Nat.le_succ _) _).setCell (Nat.le_succ _) _).setCell (Nat.le_succ _) _)

set_option maxHeartbeats 1600000 in
theorem max_any (b cap : Nat) (z0 z1 z2 z3 : Int) (w : World) (c0 : w.cell? ⟨b, 0, none⟩ = some (.int .i64 z0)) (c1 : w.cell? ⟨b, 1, none⟩ = some (.int .i64 z1)) (c2 : w.cell? ⟨b, 2, none⟩ = some (.int .i64 z2)) (c3 : w.cell? ⟨b, 3, none⟩ = some (.int .i64 z3)) :
    Calls Try.prog 112 #[.slice (some ⟨b, 0, none⟩) 4 cap] w fun r w' => r = .returned (.int .i64 (mx4 z0 z1 z2 z3)) ∧ w = w' := by
  unfold mx4
  go_enter Try.func112, Try.ntmps112
  go_wp2_with fail
  refine wp_loop_rounds 4 ?_
  rw [rounds_succ]
  go_wp2_with fail
  all_goals
    rw [rounds_succ]
    go_wp2_with fail
  all_goals
    rw [rounds_succ]
    go_wp2_with fail
  all_goals
    rw [rounds_succ]
    go_wp2_with fail
  all_goals go_ret
  all_goals exact ⟨ret_int (by omega), rfl⟩
/-- The least (the greatest) of the first and the first k of four. -/
def lo4 (a b c d : Int) : Nat → Int
  | 0 => a
  | k + 1 => min (lo4 a b c d k) (at4 a b c d k)
def hi4 (a b c d : Int) : Nat → Int
  | 0 => a
  | k + 1 => max (hi4 a b c d k) (at4 a b c d k)
theorem lo4_all (a b c d : Int) : lo4 a b c d 4 = mn4 a b c d := by simp only [lo4, at4, mn4]; omega
theorem hi4_all (a b c d : Int) : hi4 a b c d 4 = mx4 a b c d := by simp only [hi4, at4, mx4]; omega

/-- A tile's corners lie within one step, side by side. -/
theorem tile_near {W H n u : Nat} {Z : Nat → Int} (hg : Good W H n Z) (hu : u < W * H) :
    dist (Z (nw W u + 1)) (Z (nw W u)) ≤ 1 ∧ dist (Z (nw W u + W + 2)) (Z (nw W u + 1)) ≤ 1 ∧ dist (Z (nw W u + W + 1)) (Z (nw W u)) ≤ 1 ∧ dist (Z (nw W u + W + 2)) (Z (nw W u + W + 1)) ≤ 1 := by
  have hs := hg.side
  have h1 : u / W < H := Nat.div_lt_of_lt_mul hu
  have h2 := Nat.mod_lt u (show 0 < W by omega)
  have e1 : (u / W + 1) * (W + 1) = u / W * (W + 1) + (W + 1) := Nat.succ_mul _ _
  have a1 := hg.east (v := u / W) (u := u % W) (by omega) (by omega)
  have a2 := hg.east (v := u / W + 1) (u := u % W) (by omega) (by omega)
  have a3 := hg.south (v := u / W) (u := u % W) (by omega) (by omega)
  have a4 := hg.south (v := u / W) (u := u % W + 1) (by omega) (by omega)
  unfold nw
  rw [e1] at a2 a3 a4
  refine ⟨a1, ?_, ?_, ?_⟩
  · rwa [show u / W * (W + 1) + u % W + W + 2 = u / W * (W + 1) + (W + 1) + (u % W + 1) by omega]
  · rwa [show u / W * (W + 1) + u % W + W + 1 = u / W * (W + 1) + (W + 1) + u % W by omega]
  · rwa [show u / W * (W + 1) + u % W + W + 2 = u / W * (W + 1) + (W + 1) + u % W + 1 by omega, show u / W * (W + 1) + u % W + W + 1 = u / W * (W + 1) + (W + 1) + u % W by omega]
/-- The facts of a tile's heights. -/
structure T4 (W H n : Nat) (Z : Nat → Int) (u : Nat) (z0 z1 z2 z3 : Int) : Prop where
  good : Good W H n Z
  hu : u < W * H
  e0 : z0 = Z (nw W u)
  e1 : z1 = Z (nw W u + 1)
  e2 : z2 = Z (nw W u + W + 2)
  e3 : z3 = Z (nw W u + W + 1)

set_option maxHeartbeats 3200000 in
theorem face_any (W H : Nat) (ao : Option Addr) (n cap : Nat) (Z : Nat → Int) (hg : Good W H n Z) (u : Nat) (hu : u < W * H) (w : World) (hI : Ints w ao n Z) :
    Calls Try.prog 65 #[lv W H (.slice ao n cap), .int .i64 u] w fun r w' => r = .returned (.tuple #[.int .i64 (slope W Z u), .int .i64 (base W Z u)]) ∧ Below w.heap.size w w' := by
  have HL := hid (lb_start (W := W) (H := H) (cap := cap) hI)
  have HG := hid hg
  have HU := hid hu
  obtain ⟨hW1, hW2, hH1, hH2⟩ := hg.side
  have hlb := hg.shaped.bound
  have hp : nw W u + W + 2 < n := by rw [hg.len]; exact nw_lt hu
  have h0 := hg.high (nw W u) (by omega)
  have h1 := hg.high (nw W u + 1) (by omega)
  have h2 := hg.high (nw W u + W + 2) (by omega)
  have h3 := hg.high (nw W u + W + 1) (by omega)
  clear hg hu
  go_enter Try.func65, Try.ntmps65
  go_wp2_with fail
  refine (refplaces_any W H (by omega) hW2 hH2 _ u HU.out _).mono ?_
  rintro r w2 ⟨rfl, hb2⟩
  have HL1 := hid (HL.out.stays hb2)
  obtain ⟨b, off, rfl, hbz, hcell⟩ := HL1.out.ints.one (by omega)
  unfold four
  have d0 := hcell (nw W u) (by omega)
  have d1 := hcell (nw W u + 1) (by omega)
  have d2 := hcell (nw W u + W + 2) (by omega)
  have d3 := hcell (nw W u + W + 1) (by omega)
  obtain ⟨z0, e0⟩ : ∃ z, z = Z (nw W u) := ⟨_, rfl⟩
  obtain ⟨z1, e1⟩ : ∃ z, z = Z (nw W u + 1) := ⟨_, rfl⟩
  obtain ⟨z2, e2⟩ : ∃ z, z = Z (nw W u + W + 2) := ⟨_, rfl⟩
  obtain ⟨z3, e3⟩ : ∃ z, z = Z (nw W u + W + 1) := ⟨_, rfl⟩
  have E := hid (And.intro e0 (And.intro e1 (And.intro e2 e3)))
  rw [← e0] at h0 d0
  rw [← e1] at h1 d1
  rw [← e2] at h2 d2
  rw [← e3] at h3 d3
  obtain ⟨a, ha⟩ : ∃ a, a = nw W u := ⟨_, rfl⟩
  rw [← ha] at hp d0 d1 d2 d3 ⊢
  have c2 := HL1.out.c2
  have hz := HL1.out.size
  clear hb2 HL hI hcell ha e0 e1 e2 e3
  go_wp2_with fail
  go_quiet (fail)
  go_wp2_with fail
  have hV : Below w.heap.size w ((w2.alloc (.cells #[.int .i64 a, .int .i64 ((a : Int) + 1), .int .i64 ((a : Int) + W + 2), .int .i64 ((a : Int) + W + 1)] 98)).drewN nq) := (add HL1.out.below _).trans (Joins.below_draws _ _ _)
  have HV := hid hV
  have i0 := ix0
  have i1 := ix1
  have i2 := ix2
  have i3 := ix3
  have v0 : ((w2.alloc (.cells #[.int .i64 a, .int .i64 ((a : Int) + 1), .int .i64 ((a : Int) + W + 2), .int .i64 ((a : Int) + W + 1)] 98)).drewN nq).cell? ⟨w2.heap.size, 0, none⟩ = some (.int .i64 a) := by simp
  have v1 : ((w2.alloc (.cells #[.int .i64 a, .int .i64 ((a : Int) + 1), .int .i64 ((a : Int) + W + 2), .int .i64 ((a : Int) + W + 1)] 98)).drewN nq).cell? ⟨w2.heap.size, 1, none⟩ = some (.int .i64 ((a : Int) + 1)) := by simp
  have v2 : ((w2.alloc (.cells #[.int .i64 a, .int .i64 ((a : Int) + 1), .int .i64 ((a : Int) + W + 2), .int .i64 ((a : Int) + W + 1)] 98)).drewN nq).cell? ⟨w2.heap.size, 2, none⟩ = some (.int .i64 ((a : Int) + W + 2)) := by simp
  have v3 : ((w2.alloc (.cells #[.int .i64 a, .int .i64 ((a : Int) + 1), .int .i64 ((a : Int) + W + 2), .int .i64 ((a : Int) + W + 1)] 98)).drewN nq).cell? ⟨w2.heap.size, 3, none⟩ = some (.int .i64 ((a : Int) + W + 1)) := by simp
  have x2 : ((w2.alloc (.cells #[.int .i64 a, .int .i64 ((a : Int) + 1), .int .i64 ((a : Int) + W + 2), .int .i64 ((a : Int) + W + 1)] 98)).drewN nq).cell? ⟨w.heap.size, 2, none⟩ = some (.slice (some ⟨b, off, none⟩) n cap) := by simp [hz, c2, World.cell?_alloc_past]
  have hx : ∀ o, ((w2.alloc (.cells #[.int .i64 a, .int .i64 ((a : Int) + 1), .int .i64 ((a : Int) + W + 2), .int .i64 ((a : Int) + W + 1)] 98)).drewN nq).cell? ⟨b, o, none⟩ = w2.cell? ⟨b, o, none⟩ := fun o => by
    rw [World.cell?_drewN]; exact World.cell?_alloc_past _ _ _ hbz
  have y0 := (hx (off + a)).trans d0
  have y1 := (hx (off + (a + 1))).trans d1
  have y2 := (hx (off + (a + W + 2))).trans d2
  have y3 := (hx (off + (a + W + 1))).trans d3
  clear hx hV d0 d1 d2 d3 c2
  generalize World.drewN _ nq = w3 at *
  go_loopw [7, 8, 31] (fun bv tv iv wr => ∃ k j : Nat, k ≤ 4 ∧ iv = .int .i64 k ∧ bv = .int .i64 (lo4 z0 z1 z2 z3 k) ∧ tv = .int .i64 (hi4 z0 z1 z2 z3 k) ∧ wr = w3.drewN j) (fun _ _ iv _ => 4 - (intOf iv).toNat)
  case atStart => exact ⟨0, 0, by omega, rfl, rfl, rfl, rfl⟩
  case round =>
    obtain ⟨k, j, hk, rfl, rfl, rfl, rfl⟩ := hrel
    by_cases hlt : k < 4
    · have e1 : lo4 z0 z1 z2 z3 (k + 1) = min (lo4 z0 z1 z2 z3 k) (at4 z0 z1 z2 z3 k) := rfl
      have e2 : hi4 z0 z1 z2 z3 (k + 1) = max (hi4 z0 z1 z2 z3 k) (at4 z0 z1 z2 z3 k) := rfl
      have HE1 := hid (And.intro e1 e2)
      clear e1 e2
      generalize lo4 z0 z1 z2 z3 k = bk at HE1 ⊢
      generalize hi4 z0 z1 z2 z3 k = tk at HE1 ⊢
      rcases (show k = 0 ∨ k = 1 ∨ k = 2 ∨ k = 3 by omega) with rfl | rfl | rfl | rfl
      · go_wp2_with fail
        go_quiet (fail)
        have q1 : (if z0 < bk then z0 else bk) = lo4 z0 z1 z2 z3 1 := by rw [HE1.out.1]; show _ = min bk z0; split <;> omega
        have q2 : (if tk < z0 then z0 else tk) = hi4 z0 z1 z2 z3 1 := by rw [HE1.out.2]; show _ = max tk z0; split <;> omega
        simp only [q1, q2]
        clear q1 q2
        go_wp2_with fail
        go_roundw
        case rel => exact ⟨1, _, by omega, by go_num, rfl, rfl, rfl⟩
        case measure => simp [intOf]
      · go_wp2_with fail
        go_quiet (fail)
        have q1 : (if z1 < bk then z1 else bk) = lo4 z0 z1 z2 z3 2 := by rw [HE1.out.1]; show _ = min bk z1; split <;> omega
        have q2 : (if tk < z1 then z1 else tk) = hi4 z0 z1 z2 z3 2 := by rw [HE1.out.2]; show _ = max tk z1; split <;> omega
        simp only [q1, q2]
        clear q1 q2
        go_wp2_with fail
        go_roundw
        case rel => exact ⟨2, _, by omega, by go_num, rfl, rfl, rfl⟩
        case measure => simp [intOf]
      · go_wp2_with fail
        go_quiet (fail)
        have q1 : (if z2 < bk then z2 else bk) = lo4 z0 z1 z2 z3 3 := by rw [HE1.out.1]; show _ = min bk z2; split <;> omega
        have q2 : (if tk < z2 then z2 else tk) = hi4 z0 z1 z2 z3 3 := by rw [HE1.out.2]; show _ = max tk z2; split <;> omega
        simp only [q1, q2]
        clear q1 q2
        go_wp2_with fail
        go_roundw
        case rel => exact ⟨3, _, by omega, by go_num, rfl, rfl, rfl⟩
        case measure => simp [intOf]
      · go_wp2_with fail
        go_quiet (fail)
        have q1 : (if z3 < bk then z3 else bk) = lo4 z0 z1 z2 z3 4 := by rw [HE1.out.1]; show _ = min bk z3; split <;> omega
        have q2 : (if tk < z3 then z3 else tk) = hi4 z0 z1 z2 z3 4 := by rw [HE1.out.2]; show _ = max tk z3; split <;> omega
        simp only [q1, q2]
        clear q1 q2
        go_wp2_with fail
        go_roundw
        case rel => exact ⟨4, _, by omega, by go_num, rfl, rfl, rfl⟩
        case measure => simp [intOf]
    · obtain rfl : k = 4 := by omega
      rw [lo4_all, hi4_all]
      obtain ⟨m, hm⟩ : ∃ m, m = mn4 z0 z1 z2 z3 := ⟨_, rfl⟩
      obtain ⟨tp, ht⟩ : ∃ m, m = mx4 z0 z1 z2 z3 := ⟨_, rfl⟩
      rw [← hm, ← ht]
      have hm0 : 0 ≤ m := by rw [hm]; unfold mn4; omega
      have hm1 : m ≤ 15 := by rw [hm]; unfold mn4; omega
      have ht0 : 0 ≤ tp := by rw [ht]; unfold mx4; omega
      have ht1 : tp ≤ 15 := by rw [ht]; unfold mx4; omega
      obtain ⟨p, hpp⟩ : ∃ p : Nat → Bool, p = fun k => decide (m < at4 z0 z1 z2 z3 k) := ⟨_, rfl⟩
      have P0 : p 0 = decide (m < z0) := by rw [hpp]; rfl
      have P1 : p 1 = decide (m < z1) := by rw [hpp]; rfl
      have P2 : p 2 = decide (m < z2) := by rw [hpp]; rfl
      have P3 : p 3 = decide (m < z3) := by rw [hpp]; rfl
      have PQ := hid (And.intro P0 (And.intro P1 (And.intro P2 P3)))
      have HM := hid (And.intro hm (And.intro ht hpp))
      clear hm ht hpp P0 P1 P2 P3
      go_wp2_with fail
      go_loop [11, 12, 50] (fun sv pv iv => ∃ k : Nat, k ≤ 4 ∧ iv = .int .i64 k ∧ sv = .int .i64 (slR p k) ∧ pv = .int .i64 (2 ^ k) ∧ Hid (0 ≤ slR p k ∧ slR p k < 2 ^ k)) (fun _ _ iv => 4 - (intOf iv).toNat)
      case atStart => exact ⟨0, by omega, rfl, rfl, rfl, hid (by simp [slR])⟩
      case round =>
        obtain ⟨k, hk, rfl, rfl, rfl, hsl⟩ := hrel
        by_cases hlt : k < 4
        · have e1 : slR p (k + 1) = if p k then slR p k + 2 ^ k else slR p k := rfl
          have HE1 := hid e1
          have hs := hsl.out
          clear e1 hsl
          generalize slR p k = sk at HE1 hs ⊢
          rcases (show k = 0 ∨ k = 1 ∨ k = 2 ∨ k = 3 by omega) with rfl | rfl | rfl | rfl
          · have hs1 : 0 ≤ sk ∧ sk < 1 := hs
            have e : slR p 1 = if m < z0 then sk + 1 else sk := by rw [HE1.out, PQ.out.1]; simp
            have HE := hid e
            clear hs e
            go_wp2_with fail
            all_goals
              have e := HE.out
              refine ⟨⟨1, by omega, by go_num, congrArg (Value.int IntKind.i64) ?_, by rfl, hid ?_⟩, by simp [intOf]⟩
              · rw [e]; split <;> omega
              · show 0 ≤ slR p 1 ∧ slR p 1 < 2
                rw [e]; split <;> omega
          · have hs1 : 0 ≤ sk ∧ sk < 2 := hs
            have e : slR p 2 = if m < z1 then sk + 2 else sk := by rw [HE1.out, PQ.out.2.1]; simp
            have HE := hid e
            clear hs e
            go_wp2_with fail
            all_goals
              have e := HE.out
              refine ⟨⟨2, by omega, by go_num, congrArg (Value.int IntKind.i64) ?_, by rfl, hid ?_⟩, by simp [intOf]⟩
              · rw [e]; split <;> omega
              · show 0 ≤ slR p 2 ∧ slR p 2 < 4
                rw [e]; split <;> omega
          · have hs1 : 0 ≤ sk ∧ sk < 4 := hs
            have e : slR p 3 = if m < z2 then sk + 4 else sk := by rw [HE1.out, PQ.out.2.2.1]; simp
            have HE := hid e
            clear hs e
            go_wp2_with fail
            all_goals
              have e := HE.out
              refine ⟨⟨3, by omega, by go_num, congrArg (Value.int IntKind.i64) ?_, by rfl, hid ?_⟩, by simp [intOf]⟩
              · rw [e]; split <;> omega
              · show 0 ≤ slR p 3 ∧ slR p 3 < 8
                rw [e]; split <;> omega
          · have hs1 : 0 ≤ sk ∧ sk < 8 := hs
            have e : slR p 4 = if m < z3 then sk + 8 else sk := by rw [HE1.out, PQ.out.2.2.2]; simp
            have HE := hid e
            clear hs e
            go_wp2_with fail
            all_goals
              have e := HE.out
              refine ⟨⟨4, by omega, by go_num, congrArg (Value.int IntKind.i64) ?_, by rfl, hid ?_⟩, by simp [intOf]⟩
              · rw [e]; split <;> omega
              · show 0 ≤ slR p 4 ∧ slR p 4 < 16
                rw [e]; split <;> omega
        · obtain rfl : k = 4 := by omega
          have e := sl_same p (fun k => decide (m + 1 < at4 z0 z1 z2 z3 k))
          have hb : base W Z u = m := by unfold base; rw [← E.out.1, ← E.out.2.1, ← E.out.2.2.1, ← E.out.2.2.2]; exact HM.out.1.symm
          have hsl2 : slope W Z u = slP p (fun k => decide (m + 1 < at4 z0 z1 z2 z3 k)) 4 := by
            unfold slope; rw [hb, ← E.out.1, ← E.out.2.1, ← E.out.2.2.1, ← E.out.2.2.2, HM.out.2.2]
          have hnr := tile_near HG.out HU.out
          rw [← E.out.1, ← E.out.2.1, ← E.out.2.2.1, ← E.out.2.2.2] at hnr
          have hq : (decide (m + 1 < at4 z0 z1 z2 z3 0) || decide (m + 1 < at4 z0 z1 z2 z3 1) || decide (m + 1 < at4 z0 z1 z2 z3 2) || decide (m + 1 < at4 z0 z1 z2 z3 3)) = decide (tp - m = 2) := by
            rw [Bool.eq_iff_iff]
            simp only [Bool.or_eq_true, decide_eq_true_eq, at4]
            have h1 := HM.out.1
            have h2 := HM.out.2.1
            unfold mn4 at h1
            unfold mx4 at h2
            simp only [dist_le] at hnr
            omega
          replace e : slP p (fun k => decide (m + 1 < at4 z0 z1 z2 z3 k)) 4 = if (decide (m + 1 < at4 z0 z1 z2 z3 0) || decide (m + 1 < at4 z0 z1 z2 z3 1) || decide (m + 1 < at4 z0 z1 z2 z3 2) || decide (m + 1 < at4 z0 z1 z2 z3 3)) then slR p 4 + 16 else slR p 4 := e
          rw [hq] at e
          have HS := hid (And.intro hsl2 (And.intro hb e))
          have hs := hsl.out
          have hs1 : 0 ≤ slR p 4 ∧ slR p 4 < 16 := hs
          obtain ⟨sr, hsr⟩ : ∃ s, s = slR p 4 := ⟨_, rfl⟩
          rw [← hsr] at hs1 ⊢
          have HR := hid hsr
          clear hsl hs hsr e hsl2 hb hnr hq
          by_cases h2 : tp - m = 2
          · have HX := hid h2
            go_wp2_with fail
            go_ret2
            refine ⟨?_, (HV.out.trans (Joins.below_draws _ _ _))⟩
            rw [HS.out.1, HS.out.2.1, HS.out.2.2, HX.out, HR.out]; rfl
          · have HX := hid h2
            have h3 : (tp - m == 2) = false := by rw [beq_eq_false_iff_ne]; exact h2
            clear h2
            go_wp2_with fail
            go_ret2
            refine ⟨?_, (HV.out.trans (Joins.below_draws _ _ _))⟩
            rw [HS.out.1, HS.out.2.1, HS.out.2.2, decide_eq_false HX.out, HR.out]; rfl
set_option maxHeartbeats 1600000 in
theorem wet_any (W H : Nat) (ao : Option Addr) (n cap : Nat) (Z : Nat → Int) (hg : Good W H n Z) (u : Nat) (hu : u < W * H) (w : World) (hI : Ints w ao n Z) :
    Calls Try.prog 103 #[lv W H (.slice ao n cap), .int .i64 u] w fun r w' => r = .returned (.bool (decide (top W Z u ≤ 2))) ∧ Below w.heap.size w w' := by
  have HL := hid (lb_start (W := W) (H := H) (cap := cap) hI)
  have HG := hid hg
  have HU := hid hu
  obtain ⟨z0, e0⟩ : ∃ z, z = Z (nw W u) := ⟨_, rfl⟩
  obtain ⟨z1, e1⟩ : ∃ z, z = Z (nw W u + 1) := ⟨_, rfl⟩
  obtain ⟨z2, e2⟩ : ∃ z, z = Z (nw W u + W + 2) := ⟨_, rfl⟩
  obtain ⟨z3, e3⟩ : ∃ z, z = Z (nw W u + W + 1) := ⟨_, rfl⟩
  have E := hid (And.intro e0 (And.intro e1 (And.intro e2 e3)))
  unfold top
  rw [← e0, ← e1, ← e2, ← e3]
  obtain ⟨tp, ht⟩ : ∃ m, m = mx4 z0 z1 z2 z3 := ⟨_, rfl⟩
  rw [← ht]
  have HT := hid ht
  clear hI hg hu e0 e1 e2 e3 ht
  go_enter Try.func103, Try.ntmps103
  go_wp2_with fail
  refine (heights_any W H ao n cap Z HG.out u HU.out _ HL.out.ints).mono ?_
  rintro r w2 ⟨rfl, hb2⟩
  unfold fourH
  rw [← E.out.1, ← E.out.2.1, ← E.out.2.2.1, ← E.out.2.2.2]
  have HL2 := hid ((HL.out.stays hb2).stays (Joins.below_alloc1 _ (.cells #[.int .i64 z0, .int .i64 z1, .int .i64 z2, .int .i64 z3] 98)))
  clear hb2
  go_wp2_with (go_at_call 112; refine (max_any _ _ z0 z1 z2 z3 _ (by simp) (by simp) (by simp) (by simp)).mono ?_; rw [← HT.out]; rintro e w' ⟨rfl, rfl⟩)
  go_ret
  exact ⟨rfl, HL2.out.below⟩

set_option maxHeartbeats 3200000 in
theorem sea_any (W H : Nat) (ao : Option Addr) (n cap : Nat) (Z : Nat → Int) (hg : Good W H n Z) (u : Nat) (hu : u < W * H) (w : World) (hI : Ints w ao n Z) :
    Calls Try.prog 66 #[lv W H (.slice ao n cap), .int .i64 u] w fun r w' => r = .returned (.bool (decide (top W Z u ≤ 2))) ∧ Below w.heap.size w w' := by
  have HL := hid (lb_start (W := W) (H := H) (cap := cap) hI)
  have HU := hid hu
  obtain ⟨hW1, hW2, hH1, hH2⟩ := hg.side
  have hlb := hg.shaped.bound
  have hp : nw W u + W + 2 < n := by rw [hg.len]; exact nw_lt hu
  unfold top
  obtain ⟨z0, e0⟩ : ∃ z, z = Z (nw W u) := ⟨_, rfl⟩
  obtain ⟨z1, e1⟩ : ∃ z, z = Z (nw W u + 1) := ⟨_, rfl⟩
  obtain ⟨z2, e2⟩ : ∃ z, z = Z (nw W u + W + 2) := ⟨_, rfl⟩
  obtain ⟨z3, e3⟩ : ∃ z, z = Z (nw W u + W + 1) := ⟨_, rfl⟩
  rw [← e0, ← e1, ← e2, ← e3]
  obtain ⟨r, hr⟩ : ∃ r, r = decide (mx4 z0 z1 z2 z3 ≤ 2) := ⟨_, rfl⟩
  rw [← hr]
  have HR := hid hr
  clear hg hu hr
  go_enter Try.func66, Try.ntmps66
  go_wp2_with fail
  refine (refplaces_any W H (by omega) hW2 hH2 _ u HU.out _).mono ?_
  rintro r w2 ⟨rfl, hb2⟩
  have HL1 := hid (HL.out.stays hb2)
  obtain ⟨b, off, rfl, hbz, hcell⟩ := HL1.out.ints.one (by omega)
  unfold four
  have d0 := hcell (nw W u) (by omega)
  have d1 := hcell (nw W u + 1) (by omega)
  have d2 := hcell (nw W u + W + 2) (by omega)
  have d3 := hcell (nw W u + W + 1) (by omega)
  rw [← e0] at d0
  rw [← e1] at d1
  rw [← e2] at d2
  rw [← e3] at d3
  obtain ⟨a, ha⟩ : ∃ a, a = nw W u := ⟨_, rfl⟩
  rw [← ha] at hp d0 d1 d2 d3 ⊢
  have c2 := HL1.out.c2
  have hz := HL1.out.size
  have i0 := ix0
  have i1 := ix1
  have i2 := ix2
  have i3 := ix3
  clear hb2 HL hI hcell ha e0 e1 e2 e3
  have key : ∀ b : Bool, b = decide (mx4 z0 z1 z2 z3 ≤ 2) → Ending.returned (.bool b) = Ending.returned (.bool r) := fun b h => by rw [HR.out, h]
  have HK := hid key
  clear key
  go_wp2_with fail
  refine wp_loop_rounds 5 ?_
  rw [rounds_succ]
  go_wp2_with fail
  · go_ret
    exact ⟨HK.out _ (by symm; rw [decide_eq_false_iff_not]; unfold mx4; omega), HL1.out.below⟩
  rw [rounds_succ]
  go_wp2_with fail
  · go_ret
    exact ⟨HK.out _ (by symm; rw [decide_eq_false_iff_not]; unfold mx4; omega), HL1.out.below⟩
  rw [rounds_succ]
  go_wp2_with fail
  · go_ret
    exact ⟨HK.out _ (by symm; rw [decide_eq_false_iff_not]; unfold mx4; omega), HL1.out.below⟩
  rw [rounds_succ]
  go_wp2_with fail
  · go_ret
    exact ⟨HK.out _ (by symm; rw [decide_eq_false_iff_not]; unfold mx4; omega), HL1.out.below⟩
  rw [rounds_succ]
  go_wp2_with fail
  go_ret
  exact ⟨HK.out _ (by symm; rw [decide_eq_true_eq]; unfold mx4; omega), HL1.out.below⟩
set_option maxHeartbeats 1600000 in
theorem water_ok (W H : Nat) (ao : Option Addr) (n cap : Nat) (Z : Nat → Int) (hg : Good W H n Z) (u : Nat) (hu : u < W * H) (w : World) (hI : Ints w ao n Z) :
    Calls Try.prog 77 #[lv W H (.slice ao n cap), .int .i64 u] w fun r w' => r = .returned (.tuple #[.bool (decide (top W Z u ≤ 2)), .int .i64 0]) ∧ Below w.heap.size w w' := by
  have HL := hid (lb_start (W := W) (H := H) (cap := cap) hI)
  have HG := hid hg
  have HU := hid hu
  obtain ⟨r, hr⟩ : ∃ r, r = decide (top W Z u ≤ 2) := ⟨_, rfl⟩
  rw [← hr]
  have HR := hid hr
  clear hI hg hu hr
  go_enter Try.func77, Try.ntmps77
  go_wp2_with fail
  refine (vt_ok W H ao n cap Z HG.out u HU.out _ HL.out.ints).mono ?_
  rintro r w1 ⟨rfl, hb1⟩
  have HL1 := hid (HL.out.stays hb1)
  have c0 := HL1.out.c0
  have c1 := HL1.out.c1
  have c2 := HL1.out.c2
  have hz := HL1.out.size
  clear hb1
  go_wp2_with (go_at_call 103; refine (wet_any W H ao n cap Z HG.out u HU.out _ HL1.out.ints).mono ?_; rw [← HR.out]; rintro e w4 ⟨rfl, hb4⟩)
  go_ret2
  exact ⟨rfl, (HL1.out.stays hb4).below⟩
end Go.Proofs.Ytkpnngpnjimogaa
