/-
  The walk of followers: which corners change.
-/
import Derived.Test.YtngamphkehppfaaWalkV2
import Derived.Test.YtngamphkehppfaaShift
import Derived.Deep.AppendLies
import Derived.Deep.LoopGhost
import Derived.WalkMore
namespace Go.Proofs.Ytngamphkehppfaa
open Go.RowKit

/-- A corner's cells. -/
def cc (W : Nat) (Y : Nat → Int) (i : Nat) : List Value := [.int .i64 ((i % (W + 1) : Nat) : Int), .int .i64 ((i / (W + 1) : Nat) : Int), .int .i64 (Y i)]
def encC (W : Nat) (Y : Nat → Int) (L : List Nat) : List Value := L.flatMap (cc W Y)
theorem encC_snoc (W : Nat) (Y : Nat → Int) (L : List Nat) (i : Nat) : encC W Y (L ++ [i]) = encC W Y L ++ cc W Y i := by simp [encC]
theorem encC_length (W : Nat) (Y : Nat → Int) (L : List Nat) : (encC W Y L).length = L.length * 3 := by
  induction L with
  | nil => rfl
  | cons a L ih => simp only [encC, List.flatMap_cons, List.length_append, cc, List.length_cons, List.length_nil] at ih ⊢; omega
theorem info53 : (Try.prog.info? 53).map (fun i => (i.zero, i.size, i.bytes)) = some (some (.agg #[.int .i64 0, .int .i64 0, .int .i64 0]), 3, 24) := by kernel_rfl
/-- A row of the call's own stays where nothing below some number turns. -/
theorem row_below {w w' : World} {B B' : Nat} {e : TypeId} {size n : Nat} {v : Value} {xs : List Value} (h : w.ownsRow B e size v n xs) (hb : Below B' w w') (hv : ∀ k, v.ownBlock = some k → k < B') : w'.ownsRow B e size v n xs := by
  refine ⟨h.1, ?_⟩
  rcases h.2 with hn | ⟨g, cap, cur, rfl, hB, hg, rest⟩
  · exact .inl hn
  · refine .inr ⟨g, cap, cur, rfl, hB, ?_, rest⟩
    rw [hb.block g (hv g rfl)]
    exact hg
theorem row_stays {w w' : World} {B : Nat} {e : TypeId} {size n : Nat} {v : Value} {xs : List Value} (h : w.ownsRow B e size v n xs) (hb : Below w.heap.size w w') : w'.ownsRow B e size v n xs :=
  row_below h hb fun k hk => (h.lt k hk).2
theorem _root_.Go.World.ownsRow.mono' {w : World} {base base' : Nat} {e : TypeId} {size : Nat} {v : Value} {n : Nat} {xs : List Value} (h : w.ownsRow base e size v n xs) (hb : base' ≤ base) : w.ownsRow base' e size v n xs := by
  refine ⟨h.1, ?_⟩
  rcases h.2 with hn | ⟨g, cap, cur, hv, hB, rest⟩
  · exact .inl hn
  · exact .inr ⟨g, cap, cur, hv, by omega, rest⟩
theorem row_own {w : World} {B : Nat} {e : TypeId} {size n : Nat} {v : Value} {xs : List Value} (h : w.ownsRow B e size v n xs) : ∀ k, v.ownBlock = some k → B ≤ k := fun k hk => (h.lt k hk).1

/-- What the row of a number's cells is, one corner further. -/
theorem row_far {w w1 wr : World} (hb : Below (w.heap.size + 1) w1 wr) (h0 : Below w.heap.size w w1) : Below w.heap.size w wr := h0.trans (hb.mono (by omega))

theorem fol_add {W v u x y : Nat} {z s b : Int} {Z : Nat → Int} {w' : World} {B : Nat} {lst : Value} (hu : u < W + 1) (hc : chgB W x y z s Z (v * (W + 1) + u) = true) (hb : b = z - s * (dist u x + dist v y))
    (h : w'.ownsRow B 53 3 lst ((chs W x y z s Z (v * (W + 1) + u)).length + 1) (encC W (newZ W x y z s Z) (chs W x y z s Z (v * (W + 1) + u)) ++ [.int .i64 u, .int .i64 v, .int .i64 b])) :
    w'.ownsRow B 53 3 lst (chs W x y z s Z (v * (W + 1) + (u + 1))).length (encC W (newZ W x y z s Z) (chs W x y z s Z (v * (W + 1) + (u + 1)))) := by
  rw [show v * (W + 1) + (u + 1) = v * (W + 1) + u + 1 from rfl, chs_yes hc, encC_snoc, List.length_append]
  have e : cc W (newZ W x y z s Z) (v * (W + 1) + u) = [.int .i64 u, .int .i64 v, .int .i64 b] := by
    unfold cc newZ; rw [if_pos hc, at_mod hu, at_div hu]; unfold bnd; rw [far_at hu, hb]
  rw [e]; exact h
theorem fol_skip {W H n v u x : Nat} {y z s : Int} {Z : Nat → Int} (hg : Good W H n Z) (hs : s = 1 ∨ s = -1) (hv : v < H + 1) (hu : u < W + 1) (hx : x ≤ u) (hc : chgB W x y z s Z (v * (W + 1) + u) = false) :
    chs W x y z s Z ((v + 1) * (W + 1)) = chs W x y z s Z (v * (W + 1) + u) := by
  have := chs_skip (W := W) (x := x) (y := y) (z := z) (s := s) (Z := Z) (k := v * (W + 1) + u) (W + 1 - u) (fun i h1 h2 => by
    have := stay_east hg hs hv hx hc (i - (v * (W + 1) + u)) (by omega)
    rwa [show v * (W + 1) + (u + (i - (v * (W + 1) + u))) = i from by omega] at this)
  rw [← this]; congr 1; rw [Nat.succ_mul]; omega

set_option maxHeartbeats 3200000 in
theorem followers_any (W H : Nat) (ao : Option Addr) (n cap : Nat) (Z : Nat → Int) (hg : Good W H n Z) (x y : Nat) (hx : x ≤ W) (hy : y ≤ H) (z s : Int) (hz : 0 ≤ z ∧ z ≤ 15) (hs : s = 1 ∨ s = -1) (w : World) (hI : Ints w ao n Z) :
    Calls Try.prog 76 #[lv W H (.slice ao n cap), .int .i64 x, .int .i64 y, .int .i64 z, .int .i64 s] w fun r w' =>
      ∃ v, r = .returned v ∧ w'.ownsRow w.heap.size 53 3 v (chs W x y z s Z n).length (encC W (newZ W x y z s Z) (chs W x y z s Z n)) ∧ Below w.heap.size w w' := by
  obtain ⟨i0, hi, hz0, hz1, hz2⟩ := info_parts info53
  have HIN := hid (And.intro hi (And.intro hz0 (And.intro hz1 hz2)))
  clear hi hz0 hz1 hz2
  obtain ⟨hW1, hW2, hH1, hH2⟩ := hg.side
  have hlen := hg.len
  have hlb := hg.shaped.bound
  have HG := hid hg
  have HL := hid hlen
  have HI := hid (box_ints hI (.cells #[.int .i64 W, .int .i64 H, .slice ao n cap] 24))
  have HB0 := hid (Joins.below_alloc1 w (.cells #[.int .i64 W, .int .i64 H, .slice ao n cap] 24))
  have HS := hid hs
  have hsz : (w.alloc (.cells #[.int .i64 W, .int .i64 H, .slice ao n cap] 24)).heap.size = w.heap.size + 1 := by simp
  have HZ := hid hz
  obtain ⟨hzl, hzh⟩ := hz
  clear hI hg hlen hs
  go_enter Try.func76, Try.ntmps76
  go_wp2_with fail
  have c0 : (w.alloc (.cells #[.int .i64 W, .int .i64 H, .slice ao n cap] 24)).cell? ⟨w.heap.size, 0, none⟩ = some (.int .i64 W) := by simp
  have c1 : (w.alloc (.cells #[.int .i64 W, .int .i64 H, .slice ao n cap] 24)).cell? ⟨w.heap.size, 1, none⟩ = some (.int .i64 H) := by simp
  have c2 : (w.alloc (.cells #[.int .i64 W, .int .i64 H, .slice ao n cap] 24)).cell? ⟨w.heap.size, 2, none⟩ = some (.slice ao n cap) := by simp
  obtain ⟨B, hB⟩ : ∃ B, B = w.heap.size := ⟨_, rfl⟩
  have HBB := hid hB
  rw [← hB] at c0 c1 c2 hsz
  simp only [← hB]
  clear hB
  generalize w.alloc (.cells #[.int .i64 W, .int .i64 H, .slice ao n cap] 24) = w1 at *
  go_step3
  go_wp2
  go_step3
  go_wp2
  go_loopg [11, 18] (H + 1) (fun k lst iv wr => ∃ v : Nat, k + v = H + 1 ∧ iv = .int .i64 v ∧
      Hid (wr.ownsRow (B + 1) 53 3 lst (chs W x y z s Z (v * (W + 1))).length (encC W (newZ W x y z s Z) (chs W x y z s Z (v * (W + 1)))) ∧ Below (B + 1) w1 wr))
  case atStart => exact ⟨0, rfl, rfl, hid ⟨by rw [Nat.zero_mul]; exact World.ownsRow_nil _ _ _ _, Below.refl _ _⟩⟩
  case round =>
    obtain ⟨v, hv, rfl, hR⟩ := hrel
    have hvle : v ≤ H + 1 := by omega
    have HV := hid hv
    clear hv
    by_cases hlt : v < H + 1
    · have d0 : wr.cell? ⟨B, 0, none⟩ = some (.int .i64 W) := (hR.out.2.cell (p := ⟨B, 0, none⟩) (by simp)).trans c0
      have d1 : wr.cell? ⟨B, 1, none⟩ = some (.int .i64 H) := (hR.out.2.cell (p := ⟨B, 1, none⟩) (by simp)).trans c1
      have d2 : wr.cell? ⟨B, 2, none⟩ = some (.slice ao n cap) := (hR.out.2.cell (p := ⟨B, 2, none⟩) (by simp)).trans c2
      go_wp2_with fail
      simp only [show decide ((v : Int) < (H : Int) + 1) = true from decide_eq_true (by omega)]
      go_loopg [11, 24] (W + 1) (fun k lst iv wr => ∃ u : Nat, k + u = W + 1 ∧ iv = .int .i64 u ∧
          Hid (wr.ownsRow (B + 1) 53 3 lst (chs W x y z s Z (v * (W + 1) + u)).length (encC W (newZ W x y z s Z) (chs W x y z s Z (v * (W + 1) + u))) ∧ Below (B + 1) w1 wr))
      case atStart => exact ⟨0, rfl, rfl, hR⟩
      case round =>

        obtain ⟨u, hu, rfl, hR⟩ := hrel
        clear d0 d1 d2
        have hule : u ≤ W + 1 := by omega
        have HU := hid hu
        clear hu
        have d0 : wr.cell? ⟨B, 0, none⟩ = some (.int .i64 W) := (hR.out.2.cell (p := ⟨B, 0, none⟩) (by simp)).trans c0
        have d1 : wr.cell? ⟨B, 1, none⟩ = some (.int .i64 H) := (hR.out.2.cell (p := ⟨B, 1, none⟩) (by simp)).trans c1
        have d2 : wr.cell? ⟨B, 2, none⟩ = some (.slice ao n cap) := (hR.out.2.cell (p := ⟨B, 2, none⟩) (by simp)).trans c2
        by_cases hlu : u < W + 1
        · obtain ⟨b, off, rfl, hbz, hcell⟩ := HI.out.one (by omega)
          obtain ⟨a, ha⟩ : ∃ a, a = v * (W + 1) := ⟨_, rfl⟩
          have e1 : (v : Int) * ((W : Int) + 1) = (a : Int) := by rw [ha]; simp
          have hau : a + u < n := by rw [ha]; exact HG.out.at_lt hlu hlt
          have q0 : wr.cell? ⟨b, off + (a + u), none⟩ = some (.int .i64 (Z (a + u))) := (hR.out.2.cell (p := ⟨b, off + (a + u), none⟩) (by rw [← hsz]; exact hbz)).trans (hcell _ hau)
          have r0 := HG.out.high (a + u) hau
          obtain ⟨z1, ez⟩ : ∃ z, z = Z (a + u) := ⟨_, rfl⟩
          rw [← ez] at q0 r0
          have EZ := hid ez
          have HA := hid ha
          obtain ⟨r1, r2⟩ := r0
          obtain ⟨t1, t2⟩ := dist_small (a := u) (b := x) (c := 40) (by omega) (by omega)
          obtain ⟨t3, t4⟩ := dist_small (a := v) (b := y) (c := 40) (by omega) (by omega)
          clear hcell ez ha
          have hrow := hR.out.1
          have hle := chs_le W x y z s Z (v * (W + 1) + u)
          have hle2 : (chs W x y z s Z (v * (W + 1) + u)).length ≤ 1089 := by rw [← HA.out] at hle ⊢; omega
          have HROW := hid hrow
          have hbs : B + 1 ≤ wr.heap.size := by have := hR.out.2.size; omega
          clear hrow hle
          rcases HS.out with rfl | rfl
          · go_wp2_with (first
              | (go_at_call 45; refine (distance_any _ _ (by omega) (by omega) (by omega) (by omega) _).mono ?_; rintro e w' ⟨rfl, rfl⟩)
              | (at_builtin; refine wpList_append_own _ rfl _ _ 48 rfl (B + 1) 53 i0 (.agg #[.int .i64 0, .int .i64 0, .int .i64 0]) 3 24 Try.underlying48 HIN.out.1 HIN.out.2.1 HIN.out.2.2.1 HIN.out.2.2.2 rfl (by decide) _ _ _ rfl (HROW.out.alloc _) ⟨wr.heap.size, 0, none⟩ 1 1 [.int .i64 u, .int .i64 v, .int .i64 (z - (dist u x + dist v y))] rfl rfl ?c1 ?c2 ?c3 ?c4 ?c5 ?_))
            case c1 =>
              intro j u hj
              match j, hj with
              | 0, hj => simp at hj; subst hj; simp [Addr.add]
              | 1, hj => simp at hj; subst hj; simp [Addr.add]
              | 2, hj => simp at hj; subst hj; simp [Addr.add]
            case c2 => intro u hu; simp at hu; rcases hu with rfl | rfl | rfl <;> rfl
            case c3 => unfold maxLen; omega
            case c4 => omega
            case c5 => simp; omega
            · intro v' w2 hown' hgrow _
              have hc : chgB W x y z 1 Z (v * (W + 1) + u) = true := by rw [chg_up, far_at hlu, ← HA.out, ← EZ.out]; assumption
              have H1 := hid (fol_add hlu hc (b := z - (dist u x + dist v y)) (by omega) hown')
              have H2 := hid ((hR.out.2.alloc hbs (.cells #[.int .i64 u, .int .i64 v, .int .i64 (z - (dist u x + dist v y))] 53)).grown hgrow (by simp; omega) (row_own HROW.out))
              clear hown' hgrow
              go_wp2_with fail
              go_roundg (gk - 1)
              case measure => have := HU.out; omega
              case rel => exact ⟨u + 1, by have := HU.out; omega, by go_num, hid ⟨H1.out, H2.out⟩⟩
            · have hc : chgB W x y z 1 Z (v * (W + 1) + u) = false := by rw [Bool.eq_false_iff, Ne, chg_up, far_at hlu, ← HA.out, ← EZ.out]; omega
              go_roundg (H - v)
              case measure => have := HV.out; omega
              case rel => exact ⟨v + 1, by have := HV.out; omega, by go_num, hid (by rw [fol_skip HG.out (.inl rfl) hlt hlu (by assumption) hc]; exact hR.out)⟩
            · have hc : chgB W x y z 1 Z (v * (W + 1) + u) = false := by rw [Bool.eq_false_iff, Ne, chg_up, far_at hlu, ← HA.out, ← EZ.out]; omega
              go_roundg (gk - 1)
              case measure => have := HU.out; omega
              case rel => exact ⟨u + 1, by have := HU.out; omega, by go_num, hid (by rw [show v * (W + 1) + (u + 1) = v * (W + 1) + u + 1 from rfl, chs_no hc]; exact hR.out)⟩
          · go_wp2_with (first
              | (go_at_call 45; refine (distance_any _ _ (by omega) (by omega) (by omega) (by omega) _).mono ?_; rintro e w' ⟨rfl, rfl⟩)
              | (at_builtin; refine wpList_append_own _ rfl _ _ 48 rfl (B + 1) 53 i0 (.agg #[.int .i64 0, .int .i64 0, .int .i64 0]) 3 24 Try.underlying48 HIN.out.1 HIN.out.2.1 HIN.out.2.2.1 HIN.out.2.2.2 rfl (by decide) _ _ _ rfl (HROW.out.alloc _) ⟨wr.heap.size, 0, none⟩ 1 1 [.int .i64 u, .int .i64 v, .int .i64 (z + (dist u x + dist v y))] rfl rfl ?c1 ?c2 ?c3 ?c4 ?c5 ?_))
            case c1 =>
              intro j u hj
              match j, hj with
              | 0, hj => simp at hj; subst hj; simp [Addr.add]
              | 1, hj => simp at hj; subst hj; simp [Addr.add]
              | 2, hj => simp at hj; subst hj; simp [Addr.add]
            case c2 => intro u hu; simp at hu; rcases hu with rfl | rfl | rfl <;> rfl
            case c3 => unfold maxLen; omega
            case c4 => omega
            case c5 => simp; omega
            · intro v' w2 hown' hgrow _
              have hc : chgB W x y z (-1) Z (v * (W + 1) + u) = true := by rw [chg_dn, far_at hlu, ← HA.out, ← EZ.out]; omega
              have H1 := hid (fol_add hlu hc (b := z + (dist u x + dist v y)) (by omega) hown')
              have H2 := hid ((hR.out.2.alloc hbs (.cells #[.int .i64 u, .int .i64 v, .int .i64 (z + (dist u x + dist v y))] 53)).grown hgrow (by simp; omega) (row_own HROW.out))
              clear hown' hgrow
              go_wp2_with fail
              go_roundg (gk - 1)
              case measure => have := HU.out; omega
              case rel => exact ⟨u + 1, by have := HU.out; omega, by go_num, hid ⟨H1.out, H2.out⟩⟩
            · have hc : chgB W x y z (-1) Z (v * (W + 1) + u) = false := by rw [Bool.eq_false_iff, Ne, chg_dn, far_at hlu, ← HA.out, ← EZ.out]; omega
              go_roundg (H - v)
              case measure => have := HV.out; omega
              case rel => exact ⟨v + 1, by have := HV.out; omega, by go_num, hid (by rw [fol_skip HG.out (.inr rfl) hlt hlu (by assumption) hc]; exact hR.out)⟩
            · have hc : chgB W x y z (-1) Z (v * (W + 1) + u) = false := by rw [Bool.eq_false_iff, Ne, chg_dn, far_at hlu, ← HA.out, ← EZ.out]; omega
              go_roundg (gk - 1)
              case measure => have := HU.out; omega
              case rel => exact ⟨u + 1, by have := HU.out; omega, by go_num, hid (by rw [show v * (W + 1) + (u + 1) = v * (W + 1) + u + 1 from rfl, chs_no hc]; exact hR.out)⟩
        · obtain rfl : u = W + 1 := by omega
          go_wp2_with fail
          go_roundg (H - v)
          case measure => have := HV.out; omega
          case rel => exact ⟨v + 1, by have := HV.out; omega, by go_num, hid (by rw [Nat.succ_mul]; exact hR.out)⟩
    · obtain rfl : v = H + 1 := by omega
      go_wp2_with fail
      try rw [Exit.noGoto_ret]
      go_ret
      have hn : (H + 1) * (W + 1) = n := by rw [HL.out, Nat.mul_comm]
      rw [hn] at hR
      refine ⟨_, rfl, ?_, ?_⟩
      · have := hR.out.1
        exact this.mono' (by rw [← HBB.out]; omega)
      · have := HB0.out
        rw [← HBB.out] at this ⊢
        exact this.trans (hR.out.2.mono (by omega))
end Go.Proofs.Ytngamphkehppfaa
