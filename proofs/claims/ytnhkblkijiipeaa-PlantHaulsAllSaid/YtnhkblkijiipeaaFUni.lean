/-
  The walks of validateUnits and of the reference's asked, of grown, of Index and Contains of numbers, of the reference's Takes.
-/
import Derived.Test.YtnhkblkijiipeaaFDat
namespace Go.Proofs.Ytnhkblkijiipeaa
open Go.RowKit

theorem run_min2 (w : World) (ts : Array TypeId) (t : TypeId) (a b : Int) : (Builtin.min_ ts t #[.int .i64 a, .int .i64 b]).run Try.prog w = .ok (.int .i64 (min a b)) w := by
  have : (Builtin.min_ ts t #[.int .i64 a, .int .i64 b]).run Try.prog w = .ok (.int .i64 (if b < a then b else a)) w := by simp [go_sem]
  rw [this]
  congr 2
  by_cases h : b < a
  · rw [if_pos h]; omega
  · rw [if_neg h]; omega
def MinIs (a b m : Int) : Prop := ∀ (w : World) (ts : Array TypeId) (t : TypeId), (Builtin.min_ ts t #[.int .i64 a, .int .i64 b]).run Try.prog w = .ok (.int .i64 m) w
theorem min_is {a b m : Int} (h : min a b = m) : MinIs a b m := fun w ts t => by rw [← h]; exact run_min2 w ts t a b
theorem grown_any (a b m : Int) (ha : 0 ≤ a ∧ a ≤ 10000000) (hb : -10000000 ≤ b ∧ b ≤ 10000000000) (hm : min (a + b) 1000000 = m) (w : World) :
    Calls Try.prog 41 #[.int .i64 a, .int .i64 b] w fun e w' => e = .returned (.int .i64 m) ∧ w = w' := by
  have k : ∀ (w : World) (ts : Array TypeId) (t : TypeId), (Builtin.min_ ts t #[.int .i64 (a + b), .int .i64 1000000]).run Try.prog w = .ok (.int .i64 m) w := min_is hm
  have e1 : IntKind.i64.wrap (a + b) = a + b := by rw [IntKind.wrap_i64]; omega
  clear hm ha hb
  go_enter Try.func41, Try.ntmps41
  go_wp2_with fail
  go_ret
  exact ⟨rfl, rfl⟩
set_option maxHeartbeats 1600000 in
theorem index_any (ao : Option Addr) (m c : Nat) (Z : Nat → Int) (x : Int) (hm : m ≤ 1000000) (w : World) (hI : Ints w ao m Z) :
    Calls Try.prog 47 #[.slice ao m c, .int .i64 x] w fun e w' => ∃ r, Fst m (fun j => decide (x = Z j)) r ∧ e = .returned (.int .i64 r) ∧ w = w' := by
  have HI := hid hI
  clear hI
  go_enter Try.func47, Try.ntmps47
  go_wp2
  go_loop [5, 8] (fun _ iv => ∃ k : Nat, k ≤ m ∧ iv = .int .i64 k ∧ Hid (∀ j, j < k → decide (x = Z j) = false)) (fun _ iv => m - (intOf iv).toNat)
  case atStart => exact ⟨0, Nat.zero_le _, rfl, hid (fun j hj => absurd hj (Nat.not_lt_zero _))⟩
  case round =>
    obtain ⟨k, hk, rfl, HF⟩ := hrel
    by_cases hlt : k < m
    · obtain ⟨b, off, e, _, a0⟩ := iat HI.out hlt
      subst e
      obtain ⟨y, hy⟩ : ∃ y, Z k = y := ⟨_, rfl⟩
      rw [hy] at a0
      have HY := hid hy
      clear hy
      by_cases hq : x = y
      · have hb : (x == y) = true := by simpa using hq
        have HQ : Hid (decide (x = Z k) = true) := hid (by rw [HY.out]; exact decide_eq_true hq)
        clear hq
        go_wp2_with fail
        go_ret
        exact ⟨_, .inl ⟨k, hlt, HQ.out, rfl⟩, rfl, rfl⟩
      · have hb : (x == y) = false := by simpa using hq
        have HQ := hid (snoc_no HF.out (show decide (x = Z k) = false by rw [HY.out]; exact decide_eq_false hq))
        clear hq
        go_wp2_with fail
        go_round
        case rel => exact ⟨k + 1, by omega, by go_num, HQ⟩
        case measure => simp [intOf]; omega
    · obtain rfl : m = k := by omega
      go_wp2
      go_ret
      exact ⟨_, .inr ⟨HF.out, rfl⟩, rfl, rfl⟩
theorem contains_any (ao : Option Addr) (m c : Nat) (Z : Nat → Int) (x : Int) (q : Bool) (hm : m ≤ 1000000) (hq : anyP m (fun j => decide (x = Z j)) = q) (w : World) (hI : Ints w ao m Z) :
    Calls Try.prog 44 #[.slice ao m c, .int .i64 x] w fun e w' => e = .returned (.bool q) ∧ w = w' := by
  have H := hid (index_any ao m c Z x hm w hI)
  have HQ := hid hq
  clear hI hq
  go_enter Try.func44, Try.ntmps44
  go_wp2_with (go_at_call 47; refine H.out.mono ?_; rintro e w' ⟨r, hr, rfl, rfl⟩)
  have HR := hid hr
  clear hr
  go_wp2_with fail
  go_ret
  exact ⟨ret_bool (a := decide (0 ≤ r)) (by rw [HR.out.any]; exact HQ.out), rfl⟩
set_option maxRecDepth 100000 in
set_option maxHeartbeats 3200000 in
theorem rtakes_any (k : Kd) (x : Int) (q : Bool) (hm : k.tn ≤ 1000000) (hq : anyP k.tn (fun j => decide (x = k.T j)) = q) (w : World) (h : KdAt w k) :
    Calls Try.prog 46 #[kv k, .int .i64 x] w fun e w' => e = .returned (.bool q) ∧ Below w.heap.size w w' := by
  have H0 := hid (KB.start h)
  have HR := hid hq
  obtain ⟨nm, ta, tn, tc, T, ma, mn, mc, C, A⟩ := k
  dsimp only at hm
  show Calls _ _ #[.agg #[.string nm, .slice ta tn tc, .slice ma mn mc], .int .i64 x] w _
  obtain ⟨B, hB⟩ : ∃ B, w.heap.size = B := ⟨_, rfl⟩
  rw [hB] at H0 ⊢
  clear hq h
  go_enter Try.func46, Try.ntmps46
  go_upto_region 1 with fail
  generalize World.alloc w _ = w1 at H0 ⊢
  have c0 := H0.out.c0; have c1 := H0.out.c1; have c2 := H0.out.c2
  go_wp2_with fail
  clear c0 c1 c2
  go_loop [10] (fun iv => ∃ k : Nat, k ≤ tn ∧ iv = .int .i64 k ∧ Hid (∀ j, j < k → decide (x = T j) = false)) (fun iv => tn - (intOf iv).toNat)
  case atStart => exact ⟨0, Nat.zero_le _, rfl, hid (fun j hj => absurd hj (Nat.not_lt_zero _))⟩
  case round =>
    obtain ⟨k, hk, rfl, HF⟩ := hrel
    by_cases hlt : k < tn
    · obtain ⟨b, off, e, _, a0⟩ := iat H0.out.lists.t hlt
      dsimp only at e a0
      subst e
      obtain ⟨y, hy⟩ : ∃ y, T k = y := ⟨_, rfl⟩
      rw [hy] at a0
      have HY := hid hy
      clear hy
      by_cases hq : y = x
      · have hb : (y == x) = true := by simpa using hq
        have HQ : Hid (q = true) := hid (by rw [← HR.out]; exact anyP_yes hlt (by show decide (x = T k) = true; rw [HY.out]; exact decide_eq_true hq.symm))
        clear hq
        go_wp2_with fail
        go_ret
        exact ⟨by rw [HQ.out]; rfl, H0.out.below⟩
      · have hb : (y == x) = false := by simpa using hq
        have HQ := hid (snoc_no HF.out (show decide (x = T k) = false by rw [HY.out]; exact decide_eq_false (fun e => hq e.symm)))
        clear hq
        go_wp2_with fail
        go_round
        case rel => exact ⟨k + 1, by omega, by go_num, HQ⟩
        case measure => simp [intOf]; omega
    · obtain rfl : tn = k := by omega
      have HQ : Hid (q = false) := hid (by rw [← HR.out]; exact anyP_no HF.out)
      go_wp2_with fail
      go_ret
      exact ⟨by rw [HQ.out]; rfl, H0.out.below⟩
/-- The error of units of a cargo. -/
def UErr (m : Nat) (K : Nat → Kd) (p : Pl) (cargo n : Int) : Int := if PErr m K p ≠ 0 then PErr m K p else if inB 0 n 1000000 = true ∧ inB 0 cargo 15 = true then 0 else 1
theorem uerr_p {m : Nat} {K : Nat → Kd} {p : Pl} {cargo n r : Int} (h : PErr m K p = r) (h0 : ¬ r = 0) : UErr m K p cargo n = r := by unfold UErr; rw [h, if_pos h0]
theorem uerr_1 {m : Nat} {K : Nat → Kd} {p : Pl} {cargo n : Int} (h : PErr m K p = 0) (h1 : ¬ (inB 0 n 1000000 = true ∧ inB 0 cargo 15 = true)) : UErr m K p cargo n = 1 := by unfold UErr; rw [if_neg (by simpa using h), if_neg h1]
theorem uerr_0 {m : Nat} {K : Nat → Kd} {p : Pl} {cargo n : Int} (h : PErr m K p = 0) (h1 : inB 0 n 1000000 = true) (h2 : inB 0 cargo 15 = true) : UErr m K p cargo n = 0 := by unfold UErr; rw [if_neg (by simpa using h), if_pos ⟨h1, h2⟩]
theorem uerr_ok {m : Nat} {K : Nat → Kd} {p : Pl} {cargo n : Int} (h : UErr m K p cargo n = 0) : PErr m K p = 0 ∧ (0 ≤ n ∧ n ≤ 1000000) ∧ 0 ≤ cargo ∧ cargo ≤ 15 := by
  unfold UErr at h
  by_cases h0 : PErr m K p = 0
  · rw [if_neg (by simpa using h0)] at h
    by_cases h1 : inB 0 n 1000000 = true ∧ inB 0 cargo 15 = true
    · exact ⟨h0, inB_iff.1 h1.1, inB_iff.1 h1.2⟩
    · rw [if_neg h1] at h; exact absurd h (by decide)
  · rw [if_pos h0] at h; exact absurd h h0
set_option maxRecDepth 100000 in
set_option maxHeartbeats 6400000 in
theorem vunits_any (ko : Option Addr) (m kc : Nat) (K : Nat → Kd) (hm : m ≤ 1000) (hs : Small m K) (p : Pl) (hp : SmallP p) (cargo n r : Int) (hr : UErr m K p cargo n = r) (w : World) (hK : Kds w ko m K) (hP : PlAt w p) :
    Calls Try.prog 43 #[.slice ko m kc, pv p, .int .i64 cargo, .int .i64 n] w fun e w' => e = .returned (.int .i64 r) ∧ Below w.heap.size w w' := by
  have H0 := hid (PB.start hP)
  have HKD := hid (hK.stays (Joins.below_alloc1 w (.cells #[.int .i64 p.k, .int .i64 p.t, .int .i64 p.l, .slice p.st.a p.st.n p.st.c, .slice p.re.a p.re.n p.re.c, .slice p.ma.a p.ma.n p.ma.c, .slice p.mo.a p.mo.n p.mo.c, .int .i64 p.g, .int .i64 p.i, .bool p.o] 25)))
  have HR := hid hr
  obtain ⟨f, hf⟩ : ∃ f, PErr m K p = f := ⟨_, rfl⟩
  have HPF := hid hf
  have HV := hid (fun W h h' => validate_any ko m kc K hm hs p hp f hf W h h')
  clear hr hK hP hs hf hp
  obtain ⟨pk, t, l, ⟨sa, sn, sc, sZ⟩, ⟨ra, rn, rc, rZ⟩, ⟨ma, mn, mc, mZ⟩, ⟨va, vn, vc, vZ⟩, g, d, o⟩ := p
  show Calls _ _ #[.slice ko m kc, .agg #[.int .i64 pk, .int .i64 t, .int .i64 l, .slice sa sn sc, .slice ra rn rc, .slice ma mn mc, .slice va vn vc, .int .i64 g, .int .i64 d, .bool o], .int .i64 cargo, .int .i64 n] w _
  obtain ⟨B, hB⟩ : ∃ B, w.heap.size = B := ⟨_, rfl⟩
  rw [hB] at H0 ⊢
  by_cases h0 : f = 0
  · subst h0
    cases hn : inB 0 n 1000000
    · have HF : Hid (r = 1) := hid (by rw [← HR.out]; exact uerr_1 HPF.out (fun h => by rw [hn] at h; exact absurd h.1 (by decide)))
      have HW := hid (fun W => within_any 0 n 1000000 false hn W)
      clear hn
      go_enter Try.func43, Try.ntmps43
      go_upto_region 1 with fail
      generalize World.alloc w _ = w1 at H0 HKD ⊢
      have c0 := H0.out.c0; have c1 := H0.out.c1; have c2 := H0.out.c2; have c3 := H0.out.c3; have c4 := H0.out.c4; have c5 := H0.out.c5; have c6 := H0.out.c6; have c7 := H0.out.c7; have c8 := H0.out.c8; have c9 := H0.out.c9
      go_wp2_with (first
    | (go_at_call 15; refine (HV.out _ HKD.out H0.out.lists).mono ?_; rintro e w2 ⟨rfl, hb⟩; have H1 := hid (H0.out.stays hb); clear c0 c1 c2 c3 c4 c5 c6 c7 c8 c9; clear hb)
    | (go_at_call 34; with_reducible refine (HW.out _).mono ?_; rintro e w3 ⟨rfl, rfl⟩))
      go_ret
      exact ⟨by rw [HF.out]; rfl, H1.out.below⟩
    · have HW := hid (fun W => within_any 0 n 1000000 true hn W)
      cases hc : inB 0 cargo 15
      · have HF : Hid (r = 1) := hid (by rw [← HR.out]; exact uerr_1 HPF.out (fun h => by rw [hc] at h; exact absurd h.2 (by decide)))
        have HC := hid (fun W => iscargo_any cargo false hc W)
        clear hn hc
        go_enter Try.func43, Try.ntmps43
        go_upto_region 1 with fail
        generalize World.alloc w _ = w1 at H0 HKD ⊢
        have c0 := H0.out.c0; have c1 := H0.out.c1; have c2 := H0.out.c2; have c3 := H0.out.c3; have c4 := H0.out.c4; have c5 := H0.out.c5; have c6 := H0.out.c6; have c7 := H0.out.c7; have c8 := H0.out.c8; have c9 := H0.out.c9
        go_wp2_with (first
    | (go_at_call 15; refine (HV.out _ HKD.out H0.out.lists).mono ?_; rintro e w2 ⟨rfl, hb⟩; have H1 := hid (H0.out.stays hb); clear c0 c1 c2 c3 c4 c5 c6 c7 c8 c9; clear hb)
    | (go_at_call 34; with_reducible refine (HW.out _).mono ?_; rintro e w3 ⟨rfl, rfl⟩)
    | (go_at_call 56; with_reducible refine (HC.out _).mono ?_; rintro e w3 ⟨rfl, rfl⟩))
        go_ret
        exact ⟨by rw [HF.out]; rfl, H1.out.below⟩
      · have HF : Hid (r = 0) := hid (by rw [← HR.out]; exact uerr_0 HPF.out hn hc)
        have HC := hid (fun W => iscargo_any cargo true hc W)
        clear hn hc
        go_enter Try.func43, Try.ntmps43
        go_upto_region 1 with fail
        generalize World.alloc w _ = w1 at H0 HKD ⊢
        have c0 := H0.out.c0; have c1 := H0.out.c1; have c2 := H0.out.c2; have c3 := H0.out.c3; have c4 := H0.out.c4; have c5 := H0.out.c5; have c6 := H0.out.c6; have c7 := H0.out.c7; have c8 := H0.out.c8; have c9 := H0.out.c9
        go_wp2_with (first
    | (go_at_call 15; refine (HV.out _ HKD.out H0.out.lists).mono ?_; rintro e w2 ⟨rfl, hb⟩; have H1 := hid (H0.out.stays hb); clear c0 c1 c2 c3 c4 c5 c6 c7 c8 c9; clear hb)
    | (go_at_call 34; with_reducible refine (HW.out _).mono ?_; rintro e w3 ⟨rfl, rfl⟩)
    | (go_at_call 56; with_reducible refine (HC.out _).mono ?_; rintro e w3 ⟨rfl, rfl⟩))
        go_ret
        exact ⟨by rw [HF.out]; rfl, H1.out.below⟩
  · have HF : Hid (r = f) := hid (by rw [← HR.out]; exact uerr_p HPF.out h0)
    have hf0 : (f != 0) = true := by simpa using h0
    go_enter Try.func43, Try.ntmps43
    go_upto_region 1 with fail
    generalize World.alloc w _ = w1 at H0 HKD ⊢
    have c0 := H0.out.c0; have c1 := H0.out.c1; have c2 := H0.out.c2; have c3 := H0.out.c3; have c4 := H0.out.c4; have c5 := H0.out.c5; have c6 := H0.out.c6; have c7 := H0.out.c7; have c8 := H0.out.c8; have c9 := H0.out.c9
    go_wp2_with (first
    | (go_at_call 15; refine (HV.out _ HKD.out H0.out.lists).mono ?_; rintro e w2 ⟨rfl, hb⟩; have H1 := hid (H0.out.stays hb); clear c0 c1 c2 c3 c4 c5 c6 c7 c8 c9; clear hb))
    go_ret
    exact ⟨by rw [HF.out]; rfl, H1.out.below⟩
set_option maxRecDepth 100000 in
set_option maxHeartbeats 6400000 in
theorem rasked_any (ko : Option Addr) (m kc : Nat) (K : Nat → Kd) (hcap : m ≤ kc) (hs : Small m K) (p : Pl) (hp : SmallP p) (cargo n r : Int) (hr : UErr m K p cargo n = r) (w : World) (hK : Kds w ko m K) (hP : PlAt w p) :
    Calls Try.prog 45 #[.slice ko m kc, pv p, .int .i64 cargo, .int .i64 n] w fun e w' => e = .returned (.int .i64 r) ∧ Below w.heap.size w w' := by
  have H0 := hid (PB.start hP)
  have HKD := hid (hK.stays (Joins.below_alloc1 w (.cells #[.int .i64 p.k, .int .i64 p.t, .int .i64 p.l, .slice p.st.a p.st.n p.st.c, .slice p.re.a p.re.n p.re.c, .slice p.ma.a p.ma.n p.ma.c, .slice p.mo.a p.mo.n p.mo.c, .int .i64 p.g, .int .i64 p.i, .bool p.o] 25)))
  have HR := hid hr
  obtain ⟨f, hf⟩ : ∃ f, PErr m K p = f := ⟨_, rfl⟩
  have HPF := hid hf
  have HV := hid (fun W h h' => rvalidate_any ko m kc K hcap hs p hp f hf W h h')
  clear hr hK hP hs hf hp
  obtain ⟨pk, t, l, ⟨sa, sn, sc, sZ⟩, ⟨ra, rn, rc, rZ⟩, ⟨ma, mn, mc, mZ⟩, ⟨va, vn, vc, vZ⟩, g, d, o⟩ := p
  show Calls _ _ #[.slice ko m kc, .agg #[.int .i64 pk, .int .i64 t, .int .i64 l, .slice sa sn sc, .slice ra rn rc, .slice ma mn mc, .slice va vn vc, .int .i64 g, .int .i64 d, .bool o], .int .i64 cargo, .int .i64 n] w _
  obtain ⟨B, hB⟩ : ∃ B, w.heap.size = B := ⟨_, rfl⟩
  rw [hB] at H0 ⊢
  by_cases h0 : f = 0
  · subst h0
    cases hn : inB 0 n 1000000
    · have HF : Hid (r = 1) := hid (by rw [← HR.out]; exact uerr_1 HPF.out (fun h => by rw [hn] at h; exact absurd h.1 (by decide)))
      have HW := hid (fun W => rwithin_any 0 n 1000000 false hn W)
      clear hn
      go_enter Try.func45, Try.ntmps45
      go_upto_region 1 with fail
      generalize World.alloc w _ = w1 at H0 HKD ⊢
      have c0 := H0.out.c0; have c1 := H0.out.c1; have c2 := H0.out.c2; have c3 := H0.out.c3; have c4 := H0.out.c4; have c5 := H0.out.c5; have c6 := H0.out.c6; have c7 := H0.out.c7; have c8 := H0.out.c8; have c9 := H0.out.c9
      go_wp2_with (first
    | (go_at_call 16; refine (HV.out _ HKD.out H0.out.lists).mono ?_; rintro e w2 ⟨rfl, hb⟩; have H1 := hid (H0.out.stays hb); clear c0 c1 c2 c3 c4 c5 c6 c7 c8 c9; clear hb)
    | (go_at_call 37; with_reducible refine (HW.out _).mono ?_; rintro e w3 ⟨rfl, rfl⟩))
      go_ret
      exact ⟨by rw [HF.out]; rfl, H1.out.below⟩
    · have HW := hid (fun W => rwithin_any 0 n 1000000 true hn W)
      cases hc : inB 0 cargo 15
      · have HF : Hid (r = 1) := hid (by rw [← HR.out]; exact uerr_1 HPF.out (fun h => by rw [hc] at h; exact absurd h.2 (by decide)))
        have HC := hid (fun W => rwithin_any 0 cargo 15 false hc W)
        clear hn hc
        go_enter Try.func45, Try.ntmps45
        go_upto_region 1 with fail
        generalize World.alloc w _ = w1 at H0 HKD ⊢
        have c0 := H0.out.c0; have c1 := H0.out.c1; have c2 := H0.out.c2; have c3 := H0.out.c3; have c4 := H0.out.c4; have c5 := H0.out.c5; have c6 := H0.out.c6; have c7 := H0.out.c7; have c8 := H0.out.c8; have c9 := H0.out.c9
        go_wp2_with (first
    | (go_at_call 16; refine (HV.out _ HKD.out H0.out.lists).mono ?_; rintro e w2 ⟨rfl, hb⟩; have H1 := hid (H0.out.stays hb); clear c0 c1 c2 c3 c4 c5 c6 c7 c8 c9; clear hb)
    | (go_at_call 37; with_reducible refine (HW.out _).mono ?_; rintro e w3 ⟨rfl, rfl⟩)
    | (go_at_call 37; with_reducible refine (HC.out _).mono ?_; rintro e w3 ⟨rfl, rfl⟩))
        go_ret
        exact ⟨by rw [HF.out]; rfl, H1.out.below⟩
      · have HF : Hid (r = 0) := hid (by rw [← HR.out]; exact uerr_0 HPF.out hn hc)
        have HC := hid (fun W => rwithin_any 0 cargo 15 true hc W)
        clear hn hc
        go_enter Try.func45, Try.ntmps45
        go_upto_region 1 with fail
        generalize World.alloc w _ = w1 at H0 HKD ⊢
        have c0 := H0.out.c0; have c1 := H0.out.c1; have c2 := H0.out.c2; have c3 := H0.out.c3; have c4 := H0.out.c4; have c5 := H0.out.c5; have c6 := H0.out.c6; have c7 := H0.out.c7; have c8 := H0.out.c8; have c9 := H0.out.c9
        go_wp2_with (first
    | (go_at_call 16; refine (HV.out _ HKD.out H0.out.lists).mono ?_; rintro e w2 ⟨rfl, hb⟩; have H1 := hid (H0.out.stays hb); clear c0 c1 c2 c3 c4 c5 c6 c7 c8 c9; clear hb)
    | (go_at_call 37; with_reducible refine (HW.out _).mono ?_; rintro e w3 ⟨rfl, rfl⟩)
    | (go_at_call 37; with_reducible refine (HC.out _).mono ?_; rintro e w3 ⟨rfl, rfl⟩))
        go_ret
        exact ⟨by rw [HF.out]; rfl, H1.out.below⟩
  · have HF : Hid (r = f) := hid (by rw [← HR.out]; exact uerr_p HPF.out h0)
    have hf0 : (f != 0) = true := by simpa using h0
    go_enter Try.func45, Try.ntmps45
    go_upto_region 1 with fail
    generalize World.alloc w _ = w1 at H0 HKD ⊢
    have c0 := H0.out.c0; have c1 := H0.out.c1; have c2 := H0.out.c2; have c3 := H0.out.c3; have c4 := H0.out.c4; have c5 := H0.out.c5; have c6 := H0.out.c6; have c7 := H0.out.c7; have c8 := H0.out.c8; have c9 := H0.out.c9
    go_wp2_with (first
    | (go_at_call 16; refine (HV.out _ HKD.out H0.out.lists).mono ?_; rintro e w2 ⟨rfl, hb⟩; have H1 := hid (H0.out.stays hb); clear c0 c1 c2 c3 c4 c5 c6 c7 c8 c9; clear hb))
    go_ret
    exact ⟨by rw [HF.out]; rfl, H1.out.below⟩
end Go.Proofs.Ytnhkblkijiipeaa
