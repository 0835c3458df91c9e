/-
  The walk of large: how much the statements look at.
-/
import Derived.Test.YtnhkblkijiipeaaFKno
namespace Go.Proofs.Ytnhkblkijiipeaa
open Go.RowKit

/-- What is no larger than the statements look at. -/
structure Sz (m : Nat) (K : Nat → Kd) (p : Pl) : Prop where
  km : m ≤ 300
  tn : ∀ j, j < m → (K j).tn ≤ 300
  mn : ∀ j, j < m → (K j).mn ≤ 300
  nm : ∀ j, j < m → (K j).nm.size ≤ 300
  st : p.st.n ≤ 300
  re : p.re.n ≤ 300
  ma : p.ma.n ≤ 300
  mo : p.mo.n ≤ 300
theorem Sz.small {m : Nat} {K : Nat → Kd} {p : Pl} (h : Sz m K p) : Small m K := ⟨fun j hj => by have := h.nm j hj; unfold maxLen; omega, fun j hj => by have := h.tn j hj; omega, fun j hj => by have := h.mn j hj; omega⟩
theorem Sz.plant {m : Nat} {K : Nat → Kd} {p : Pl} (h : Sz m K p) : SmallP p := ⟨by have := h.st; omega, by have := h.re; omega, by have := h.ma; omega, by have := h.mo; omega⟩
def LgPost (m : Nat) (K : Nat → Kd) (p : Pl) (w : World) (e : Ending) (w' : World) : Prop := ∃ b : Bool, e = .returned (.bool b) ∧ (b = false → Sz m K p) ∧ Below w.heap.size w w'
set_option maxRecDepth 100000 in
set_option maxHeartbeats 12800000 in
theorem large_any (ko : Option Addr) (m kc : Nat) (K : Nat → Kd) (p : Pl) (hm : m ≤ maxLen) (w : World) (hK : Kds w ko m K) :
    Calls Try.prog 13 #[.slice ko m kc, pv p] w (LgPost m K p w) := by
  unfold maxLen at hm
  have HKB : Hid (∀ W, Below w.heap.size w W → Kds W ko m K) := hid (fun W hb => hK.stays hb)
  obtain ⟨k, t, l, ⟨sa, sn, sc, sZ⟩, ⟨ra, rn, rc, rZ⟩, ⟨ma, mn, mc, mZ⟩, ⟨va, vn, vc, vZ⟩, g, d, o⟩ := p
  show Calls _ _ #[.slice ko m kc, .agg #[.int .i64 k, .int .i64 t, .int .i64 l, .slice sa sn sc, .slice ra rn rc, .slice ma mn mc, .slice va vn vc, .int .i64 g, .int .i64 d, .bool o]] w _
  have hb0 := Joins.below_alloc1 w (.cells #[.int .i64 k, .int .i64 t, .int .i64 l, .slice sa sn sc, .slice ra rn rc, .slice ma mn mc, .slice va vn vc, .int .i64 g, .int .i64 d, .bool o] 25)
  have hx0 := heap_new w (.cells #[.int .i64 k, .int .i64 t, .int .i64 l, .slice sa sn sc, .slice ra rn rc, .slice ma mn mc, .slice va vn vc, .int .i64 g, .int .i64 d, .bool o] 25 (0, 0))
  obtain ⟨B, hB⟩ : ∃ B, w.heap.size = B := ⟨_, rfl⟩
  have HBW := hid hB
  have HPO := hid (fun (b : Bool) (w' : World) (h : b = false → Sz m K ⟨k, t, l, ⟨sa, sn, sc, sZ⟩, ⟨ra, rn, rc, rZ⟩, ⟨ma, mn, mc, mZ⟩, ⟨va, vn, vc, vZ⟩, g, d, o⟩) (hb : Below B w w') => (show LgPost m K ⟨k, t, l, ⟨sa, sn, sc, sZ⟩, ⟨ra, rn, rc, rZ⟩, ⟨ma, mn, mc, mZ⟩, ⟨va, vn, vc, vZ⟩, g, d, o⟩ w (.returned (.bool b)) w' from ⟨b, rfl, h, by rw [hB]; exact hb⟩))
  generalize LgPost m K ⟨k, t, l, ⟨sa, sn, sc, sZ⟩, ⟨ra, rn, rc, rZ⟩, ⟨ma, mn, mc, mZ⟩, ⟨va, vn, vc, vZ⟩, g, d, o⟩ w = PO at HPO ⊢
  show Calls _ _ _ w (fun e w' => PO e w')
  rw [hB] at HKB hb0 hx0
  have H0 := hid (And.intro hb0 hx0)
  clear hK hb0 hx0
  go_enter Try.func13, Try.ntmps13
  go_upto_region 1 with fail
  clear hB
  generalize World.alloc w _ = w1 at H0 ⊢
  go_wp2_with fail
  go_loopw [9] (fun iv wr => ∃ i : Nat, i ≤ m ∧ iv = .int .i64 i ∧ Hid (Below B w wr ∧ wr.heap[B]? = some (.cells #[.int .i64 k, .int .i64 t, .int .i64 l, .slice sa sn sc, .slice ra rn rc, .slice ma mn mc, .slice va vn vc, .int .i64 g, .int .i64 d, .bool o] 25 (0, 0))) ∧ Hid (∀ j, j < i → (K j).tn ≤ 300 ∧ (K j).mn ≤ 300 ∧ (K j).nm.size ≤ 300)) (fun iv _ => m - (intOf iv).toNat)
  case atStart => exact ⟨0, Nat.zero_le _, rfl, H0, hid (fun j hj => absurd hj (Nat.not_lt_zero _))⟩
  case round =>
    clear H0
    obtain ⟨i, hi, rfl, HM, HI⟩ := hrel
    by_cases hlt : i < m
    · obtain ⟨b, off, e, _, a0, a1, a2⟩ := kat (HKB.out _ HM.out.1) hlt
      subst e
      obtain ⟨x, hx⟩ : ∃ x, K i = x := ⟨_, rfl⟩
      rw [hx] at a0 a1 a2
      have HX := hid hx
      have hba : Below wr.heap.size wr (wr.alloc (.cells #[.string x.nm, .slice x.ta x.tn x.tc, .slice x.ma x.mn x.mc] 40)) := (Below.refl _ _).alloc (Nat.le_refl _) _
      have HB2 := hid (And.intro (HM.out.1.trans (hba.mono (by rw [← HBW.out]; exact HM.out.1.size))) ((hba.block _ (heap_lt HM.out.2)).trans HM.out.2))
      have HN := hid (heap_new wr (.cells #[.string x.nm, .slice x.ta x.tn x.tc, .slice x.ma x.mn x.mc] 40))
      obtain ⟨X, hX⟩ : ∃ X, wr.heap.size = X := ⟨_, rfl⟩
      rw [hX] at HN
      clear hx hba
      go_upto_region 4 with fail
      clear a0 a1 a2 hX HM
      generalize World.alloc wr _ = w2 at HB2 HN ⊢
      have c0 : w2.cell? ⟨X, 0, none⟩ = some (.string x.nm) := cell_of_row _ X 0 _ _ _ HN.out
      have c1 : w2.cell? ⟨X, 1, none⟩ = some (.slice x.ta x.tn x.tc) := cell_of_row _ X 1 _ _ _ HN.out
      have c2 : w2.cell? ⟨X, 2, none⟩ = some (.slice x.ma x.mn x.mc) := cell_of_row _ X 2 _ _ _ HN.out
      by_cases h1 : (300 : Int) < (x.tn : Int)
      · go_wp2_with fail
        try go_ret
        exact HPO.out true _ (fun h => absurd h (by decide)) HB2.out.1
      by_cases h2 : (300 : Int) < (x.mn : Int)
      · go_wp2_with fail
        try go_ret
        exact HPO.out true _ (fun h => absurd h (by decide)) HB2.out.1
      by_cases h3 : (300 : Int) < (x.nm.size : Int)
      · go_wp2_with fail
        try go_ret
        exact HPO.out true _ (fun h => absurd h (by decide)) HB2.out.1
      have HNX : Hid (∀ j, j < i + 1 → (K j).tn ≤ 300 ∧ (K j).mn ≤ 300 ∧ (K j).nm.size ≤ 300) := hid (fun j hj => by
        by_cases e : j = i
        · subst e; rw [HX.out]; omega
        · exact HI.out j (by omega))
      go_wp2_with fail
      go_roundw
      case rel => exact ⟨i + 1, by omega, by go_num, HB2, HNX⟩
      case measure => simp [intOf]; omega
    · obtain rfl : m = i := by omega
      have c3 : wr.cell? ⟨B, 3, none⟩ = some (.slice sa sn sc) := cell_of_row _ B 3 _ _ _ HM.out.2
      have c4 : wr.cell? ⟨B, 4, none⟩ = some (.slice ra rn rc) := cell_of_row _ B 4 _ _ _ HM.out.2
      have c5 : wr.cell? ⟨B, 5, none⟩ = some (.slice ma mn mc) := cell_of_row _ B 5 _ _ _ HM.out.2
      have c6 : wr.cell? ⟨B, 6, none⟩ = some (.slice va vn vc) := cell_of_row _ B 6 _ _ _ HM.out.2
      by_cases h1 : (300 : Int) < (m : Int)
      · go_wp2_with fail
        try go_ret
        exact HPO.out true _ (fun h => absurd h (by decide)) HM.out.1
      by_cases h2 : (300 : Int) < (sn : Int)
      · go_wp2_with fail
        try go_ret
        exact HPO.out true _ (fun h => absurd h (by decide)) HM.out.1
      by_cases h3 : (300 : Int) < (rn : Int)
      · go_wp2_with fail
        try go_ret
        exact HPO.out true _ (fun h => absurd h (by decide)) HM.out.1
      by_cases h4 : (300 : Int) < (mn : Int)
      · go_wp2_with fail
        try go_ret
        exact HPO.out true _ (fun h => absurd h (by decide)) HM.out.1
      by_cases h5 : (300 : Int) < (vn : Int)
      · go_wp2_with fail
        try go_ret
        exact HPO.out true _ (fun h => absurd h (by decide)) HM.out.1
      go_wp2_with fail
      try go_ret
      exact HPO.out false _ (fun _ => ⟨by omega, fun j hj => (HI.out j hj).1, fun j hj => (HI.out j hj).2.1, fun j hj => (HI.out j hj).2.2, by show sn ≤ 300; omega, by show rn ≤ 300; omega, by show mn ≤ 300; omega, by show vn ≤ 300; omega⟩) HM.out.1
end Go.Proofs.Ytnhkblkijiipeaa
