/-
  The spans that cross a tile: the walks of Over of the program and of the reference.
-/
import Derived.Test.YtpohhcmkkjcelaaSCrs
namespace Go.Proofs.Ytpohhcmkkjcelaa
open Go.RowKit

/-- Spans as cells. -/
def sc4 (x : Sp) : List Value := [.int .i64 x.k, .int .i64 x.a, .int .i64 x.b, .int .i64 x.u]
def encL (L : List Sp) : List Value := L.flatMap sc4
theorem encL_snoc (L : List Sp) (x : Sp) : encL (L ++ [x]) = encL L ++ sc4 x := by simp [encL]
theorem infoS : (Try.prog.info? 26).map (fun i => (i.zero, i.size, i.bytes)) = some (some (.agg #[.int .i64 0, .int .i64 0, .int .i64 0, .int .i64 0]), 4, 32) := by kernel_rfl
/-- The chosen ones of the first m. -/
def ovL (ov : Nat → Bool) (S : Nat → Sp) : Nat → List Sp
  | 0 => []
  | m + 1 => if ov m then ovL ov S m ++ [S m] else ovL ov S m
theorem ovL_len (ov : Nat → Bool) (S : Nat → Sp) (m : Nat) : (ovL ov S m).length ≤ m := by
  induction m with
  | zero => simp [ovL]
  | succ m ih => unfold ovL; split <;> (try rw [List.length_append]) <;> (try simp only [List.length_cons, List.length_nil]) <;> omega
def MidP (W : Nat) (t : Int) (s : Sp) : Prop := ∃ p q : Nat, s.a = p ∧ s.b = q ∧ Mid W p q t
/-- What Over answers. -/
inductive OverIs (W H : Int) (n : Nat) (Z : Nat → Int) (m : Nat) (S : Nat → Sp) (t : Int) : List Sp → Int → Prop where
  | list (e : Int) : e ≠ 0 → LErr W H n Z m S e → OverIs W H n Z m S t [] e
  | none : LErr W H n Z m S 0 → ¬ Tl W.toNat H.toNat t → OverIs W H n Z m S t [] 2
  | ok (ov : Nat → Bool) : LErr W H n Z m S 0 → Tl W.toNat H.toNat t → (∀ i, ov i = true ↔ MidP W.toNat t (S i)) → OverIs W H n Z m S t (ovL ov S m) 0
theorem OverIs.ex (W H : Int) (n : Nat) (Z : Nat → Int) (m : Nat) (S : Nat → Sp) (t : Int) : ∃ L e, OverIs W H n Z m S t L e := by
  obtain ⟨e, he⟩ := LErr.ex W H n Z m S
  by_cases h0 : e = 0
  · subst h0
    by_cases ht : Tl W.toNat H.toNat t
    · have hdec : ∀ i, ∃ b : Bool, b = true ↔ MidP W.toNat t (S i) := fun i => by
        by_cases h : MidP W.toNat t (S i)
        · exact ⟨true, fun _ => h, fun _ => rfl⟩
        · exact ⟨false, fun k => (by cases k), fun k => absurd k h⟩
      exact ⟨_, _, .ok (fun i => (hdec i).choose) he ht fun i => (hdec i).choose_spec⟩
    · exact ⟨_, _, .none he ht⟩
  · exact ⟨_, _, .list e h0 he⟩

set_option maxHeartbeats 3200000 in
theorem in_any (vo : Option Addr) (c vc : Nat) (B a d : Nat) (t : Int) (r : Bool) (hc : c ≤ 2000) (hr : r = true ↔ ∃ i, i < c ∧ t = tl a d i) (w : World) (hrow : w.ownsRow B 3 1 (.slice vo c vc) c (vals c (tls a d))) :
    Calls Try.prog 42 #[.slice vo c vc, .int .i64 t] w fun e w' => e = .returned (.bool r) ∧ Below w.heap.size w w' := by
  have HR := hid hr
  have HROW := hid hrow
  clear hr hrow
  have hc0 : (0 : Int) ≤ (c : Int) := by omega
  go_enter Try.func42, Try.ntmps42
  go_wp2_with fail
  go_loop [5] (fun iv => ∃ i : Nat, i ≤ c ∧ iv = .int .i64 i ∧ Hid (∀ j, j < i → t ≠ tl a d j)) (fun iv => c - (intOf iv).toNat)
  case atStart => exact ⟨0, Nat.zero_le _, rfl, hid (fun j hj => by omega)⟩
  case round =>
    obtain ⟨i, hi, rfl, hk⟩ := hrel
    by_cases hlt : i < c
    · obtain ⟨g, c', e', _, _⟩ := HROW.out.form (by omega)
      cases e'
      have x0 := (HROW.out.cellAt i (by omega)).trans (vals_get (tls a d) hlt)
      obtain ⟨y, hy⟩ : ∃ y, y = tl a d i := ⟨_, rfl⟩
      rw [show tls a d i = .int .i64 (tl a d i) from rfl, ← hy] at x0
      have HY := hid hy
      have hi0 : (0 : Int) ≤ (i : Int) := by omega
      have hi1 : (i : Int) < (c : Int) := by omega
      clear hy
      by_cases h : y = t
      · have g1 : (y == t) = true := by rw [beq_iff_eq]; exact h
        have hrt : r = true := HR.out.2 ⟨i, hlt, by rw [← HY.out]; exact h.symm⟩
        subst hrt
        clear h
        go_wp2_with fail
        go_ret
        exact ⟨rfl, Below.refl _ _⟩
      · have g1 : (y == t) = false := by rw [beq_eq_false_iff_ne]; exact h
        have HN := hid h
        clear h
        go_wp2_with fail
        go_round
        case rel =>
          refine ⟨i + 1, by omega, by go_num, hid (fun j hj => ?_)⟩
          by_cases hh : j < i
          · exact hk.out j hh
          · obtain rfl : j = i := by omega
            exact fun q => HN.out (by rw [HY.out]; exact q.symm)
        case measure => simp [intOf]; omega
    · obtain rfl : i = c := by omega
      have hrf : r = false := by
        rw [Bool.eq_false_iff, ne_eq, HR.out]
        rintro ⟨j, hj, h⟩
        exact hk.out j hj h
      subst hrf
      go_wp2_with fail
      go_ret
      exact ⟨rfl, Below.refl _ _⟩

/-- The memory of Over: the land's box, the list. -/
structure OV (W H : Int) (ao : Option Addr) (n cap : Nat) (Z : Nat → Int) (L : List Sp) (v : Value) (w wr : World) : Prop where
  lb : LB W H ao n cap Z w wr
  row : wr.ownsRow (w.heap.size + 1) 26 4 v L.length (encL L)
theorem OV.stays {W H : Int} {ao : Option Addr} {n cap : Nat} {Z : Nat → Int} {L : List Sp} {v : Value} {w wr w' : World} (h : OV W H ao n cap Z L v w wr) (hb : Below wr.heap.size wr w') : OV W H ao n cap Z L v w w' := ⟨h.lb.stays hb, row_stays h.row hb⟩
theorem OV.app {W H : Int} {ao : Option Addr} {n cap : Nat} {Z : Nat → Int} {L : List Sp} {v : Value} {w wr w' : World} {v' : Value} {x : Sp} (hI : Ints w ao n Z) (h : OV W H ao n cap Z L v w wr) (o : Obj) (hg : (wr.alloc o).grownBy w' v.ownBlock) (hn : w'.ownsRow (w.heap.size + 1) 26 4 v' (L.length + 1) (encL L ++ sc4 x)) : OV W H ao n cap Z (L ++ [x]) v' w w' := by
  have hz := h.lb.size
  have hb : Below (w.heap.size + 1) wr w' := ((Below.refl _ wr).alloc (by omega) o).grown hg (by simp; omega) (fun j hj => (h.row.lt j hj).1)
  exact ⟨h.lb.low hI hb, by rw [List.length_append, encL_snoc]; exact hn⟩
theorem ov_keep {W H : Int} {ao : Option Addr} {n cap : Nat} {Z : Nat → Int} {L : List Sp} {v : Value} {w wr w' : World} {bl y : Nat} {k p q u : Int} {P : Prop} (hz : bl < w.heap.size) (D : w.cell? ⟨bl, y, none⟩ = some (.int .i64 k) ∧ w.cell? ⟨bl, y + 1, none⟩ = some (.int .i64 p) ∧ w.cell? ⟨bl, y + 2, none⟩ = some (.int .i64 q) ∧ w.cell? ⟨bl, y + 3, none⟩ = some (.int .i64 u)) (h : OV W H ao n cap Z L v w wr ∧ P) (hb : Below wr.heap.size wr w') : OV W H ao n cap Z L v w w' ∧ w'.cell? ⟨w.heap.size, 0, none⟩ = some (.int .i64 W) ∧ w'.cell? ⟨w.heap.size, 1, none⟩ = some (.int .i64 H) ∧ w'.cell? ⟨w.heap.size, 2, none⟩ = some (.slice ao n cap) ∧ w'.cell? ⟨bl, y, none⟩ = some (.int .i64 k) ∧ w'.cell? ⟨bl, y + 1, none⟩ = some (.int .i64 p) ∧ w'.cell? ⟨bl, y + 2, none⟩ = some (.int .i64 q) ∧ w'.cell? ⟨bl, y + 3, none⟩ = some (.int .i64 u) :=
  have h2 := h.1.stays hb
  have c : ∀ (i : Nat) (x : Value), w.cell? ⟨bl, i, none⟩ = some x → w'.cell? ⟨bl, i, none⟩ = some x := fun i _ e => (h2.lb.below.cell (p := ⟨bl, i, none⟩) hz).trans e
  ⟨h2, h2.lb.c0, h2.lb.c1, h2.lb.c2, c _ _ D.1, c _ _ D.2.1, c _ _ D.2.2.1, c _ _ D.2.2.2⟩
theorem ov_ints {W H : Int} {ao : Option Addr} {n cap : Nat} {Z : Nat → Int} {L : List Sp} {v : Value} {w wr : World} {P : Prop} (h : OV W H ao n cap Z L v w wr ∧ P) : Ints wr ao n Z := h.1.lb.ints
theorem ov_of {W H : Int} {ao : Option Addr} {n cap : Nat} {Z : Nat → Int} {L : List Sp} {v : Value} {w wr : World} {P : Prop} (h : OV W H ao n cap Z L v w wr ∧ P) : OV W H ao n cap Z L v w wr := h.1

set_option maxRecDepth 20000 in
set_option maxHeartbeats 12800000 in
theorem spover_to (W H : Int) (ao : Option Addr) (n cap : Nat) (Z : Nat → Int) (hn : n ≤ 9223372036854775807) (lo : Option Addr) (m lcap : Nat) (S : Nat → Sp) (hm : m ≤ 300) (t : Int) (L : List Sp) (e : Int) (h : OverIs W H n Z m S t L e) (w : World) (hI : Ints w ao n Z) (hS : SpansAt w lo m S) :
    Calls Try.prog 22 #[lv W H (.slice ao n cap), .slice lo m lcap, .int .i64 t] w fun r w' => ∃ v, r = .returned (.tuple #[v, .int .i64 e]) ∧ w'.ownsRow w.heap.size 26 4 v L.length (encL L) ∧ Below w.heap.size w w' := by
  have HM := hid (lb_start (W := W) (H := H) (cap := cap) hI)
  have HS := hid hS
  have HI := hid hI
  have hm0 : (0 : Int) ≤ (m : Int) := by omega
  obtain ⟨i0, hi, hz0, hz1, hz2⟩ := info_parts infoS
  have HIN := hid (And.intro hi (And.intro hz0 (And.intro hz1 hz2)))
  clear hi hz0 hz1 hz2
  clear hI hS
  cases h with
  | list e h0 hv =>
    have HV := hid hv
    have g : (e != 0) = true := by simpa using h0
    have g2 : (e == 0) = false := by simpa using h0
    clear hv
    go_enter Try.func22, Try.ntmps22
    go_upto_region 1 with fail
    generalize World.alloc w _ = wm at HM ⊢
    have c0 := HM.out.c0; have c1 := HM.out.c1; have c2 := HM.out.c2; have hz := HM.out.size
    go_wp2_with (go_at_call 36; (with_reducible refine (validateList_to W H ao n cap Z hn lo m lcap S hm e HV.out _ HM.out.ints (HS.out.stays HM.out.below)).mono ?_); rintro e w1 ⟨rfl, hb⟩; have HN := hid (HM.out.stays hb); clear hb c0 c1 c2 hz HM; have HM := HN; clear HN; have c0 := HM.out.c0; have c1 := HM.out.c1; have c2 := HM.out.c2; have hz := HM.out.size)
    go_ret2
    exact ⟨_, rfl, World.ownsRow_nil _ _ _ _, HM.out.below⟩
  | none hv ht =>
    have HV := hid hv
    obtain ⟨W, H, rfl, rfl, hg, ha, hr⟩ := hv.right
    obtain ⟨hW1, hW2, hH1, hH2⟩ := hg.side
    have hms := mul_small hW2 hH2
    rw [Int.toNat_natCast, Int.toNat_natCast] at ht
    have HT := hid ht
    obtain ⟨mm, hmm⟩ : ∃ m, m = W * H := ⟨_, rfl⟩
    have em : (W : Int) * (H : Int) = (mm : Int) := by rw [hmm]; simp
    unfold Tl at ht
    rw [← hmm] at ht hms
    have ht2 : t < 0 ∨ (0 ≤ t ∧ (mm : Int) ≤ t) := by omega
    clear hv hg ha hr ht hmm
    rcases ht2 with ht2 | ⟨ht2, ht3⟩
    all_goals
      go_enter Try.func22, Try.ntmps22
      go_upto_region 1 with fail
      generalize World.alloc w _ = wm at HM ⊢
      have c0 := HM.out.c0; have c1 := HM.out.c1; have c2 := HM.out.c2; have hz := HM.out.size
      go_wp2_with (first | (go_at_call 36; (with_reducible refine (validateList_to W H ao n cap Z hn lo m lcap S hm 0 HV.out _ HM.out.ints (HS.out.stays HM.out.below)).mono ?_); rintro e w1 ⟨rfl, hb⟩; have HN := hid (HM.out.stays hb); clear hb c0 c1 c2 hz HM; have HM := HN; clear HN; have c0 := HM.out.c0; have c1 := HM.out.c1; have c2 := HM.out.c2; have hz := HM.out.size) | (go_at_call 44; (with_reducible refine (spTile_any W H hW2 hH2 _ t false ⟨fun h => (by cases h), fun h => absurd h HT.out⟩ _).mono ?_); rintro e w1 ⟨rfl, hb⟩; have HN := hid (HM.out.stays hb); clear hb c0 c1 c2 hz HM; have HM := HN; clear HN; have c0 := HM.out.c0; have c1 := HM.out.c1; have c2 := HM.out.c2; have hz := HM.out.size))
      go_ret2
      exact ⟨_, rfl, World.ownsRow_nil _ _ _ _, HM.out.below⟩
  | ok ov hv ht hov =>
    have HV := hid hv
    obtain ⟨W, H, rfl, rfl, hg, ha, hr⟩ := hv.right
    obtain ⟨hW1, hW2, hH1, hH2⟩ := hg.side
    have hms := mul_small hW2 hH2
    rw [Int.toNat_natCast, Int.toNat_natCast] at ht
    rw [Int.toNat_natCast] at hov
    have HT := hid ht
    have HOV := hid hov
    have HR := hid hr
    obtain ⟨mm, hmm⟩ : ∃ m, m = W * H := ⟨_, rfl⟩
    have em : (W : Int) * (H : Int) = (mm : Int) := by rw [hmm]; simp
    unfold Tl at ht
    have hms' := hms
    rw [← hmm] at ht hms
    obtain ⟨ht1, ht2⟩ := ht
    clear hv hg ha hr hmm hov
    go_enter Try.func22, Try.ntmps22
    go_upto_region 1 with fail
    generalize World.alloc w _ = wm at HM ⊢
    have c0 := HM.out.c0; have c1 := HM.out.c1; have c2 := HM.out.c2; have hz := HM.out.size
    go_upto_region 6 with (first | (go_at_call 36; (with_reducible refine (validateList_to W H ao n cap Z hn lo m lcap S hm 0 HV.out _ HM.out.ints (HS.out.stays HM.out.below)).mono ?_); rintro e w1 ⟨rfl, hb⟩; have HN := hid (HM.out.stays hb); clear hb c0 c1 c2 hz HM; have HM := HN; clear HN; have c0 := HM.out.c0; have c1 := HM.out.c1; have c2 := HM.out.c2; have hz := HM.out.size) | (go_at_call 44; (with_reducible refine (spTile_any W H hW2 hH2 _ t true ⟨fun _ => HT.out, fun _ => rfl⟩ _).mono ?_); rintro e w1 ⟨rfl, hb⟩; have HN := hid (HM.out.stays hb); clear hb c0 c1 c2 hz HM; have HM := HN; clear HN; have c0 := HM.out.c0; have c1 := HM.out.c1; have c2 := HM.out.c2; have hz := HM.out.size))
    have HN : Hid (OV W H ao n cap Z (ovL ov S 0) (.slice none 0 0) w _) := hid ⟨HM.out, World.ownsRow_nil _ _ _ _⟩
    clear c0 c1 c2 hz HM
    go_wp2_with fail
    go_loopw [9, 24] (fun v iv wr => ∃ i : Nat, i ≤ m ∧ iv = .int .i64 i ∧ Hid (OV W H ao n cap Z (ovL ov S i) v w wr)) (fun _ iv _ => m - (intOf iv).toNat)
    case atStart => exact ⟨0, Nat.zero_le _, rfl, HN⟩
    case round =>
      obtain ⟨i, hi, rfl, hB⟩ := hrel
      clear HN
      by_cases hlt : i < m
      · obtain ⟨bl, off, rfl, hbz, q0, q1, q2, q3⟩ := HS.out i hlt
        obtain ⟨p, q, e1, e2, hrt⟩ := (HR.out i hlt).right
        obtain ⟨k, hkk⟩ : ∃ k, k = (S i).k := ⟨_, rfl⟩
        obtain ⟨u, hu⟩ : ∃ u, u = (S i).u := ⟨_, rfl⟩
        obtain ⟨y, hy⟩ : ∃ y, y = off + i * 4 := ⟨_, rfl⟩
        have ey : off + i * 4 = y := hy.symm
        rw [ey] at q0 q1 q2 q3
        rw [e1] at q1
        rw [e2] at q2
        rw [← hkk] at q0
        rw [← hu] at q3
        have hp2 : p ≤ 1024 := by have := hrt.ha; omega
        have hq2 : q ≤ 1024 := by have := hrt.hb; omega
        have HL := hid hrt.line
        have HSI : Hid (sc4 (S i) = [.int .i64 k, .int .i64 p, .int .i64 q, .int .i64 u]) := hid (by unfold sc4; rw [← hkk, e1, e2, ← hu])
        have hlen := ovL_len ov S i
        have D := hid (And.intro q0 (And.intro q1 (And.intro q2 q3)))
        have HMID : Hid (ov i = true ↔ Mid W p q t) := hid (by
          rw [HOV.out]
          constructor
          · rintro ⟨p', q', e1', e2', h⟩
            obtain rfl : p' = p := by omega
            obtain rfl : q' = q := by omega
            exact h
          · exact fun h => ⟨p, q, e1, e2, h⟩)
        have hi0 : (0 : Int) ≤ (i : Int) := by omega
        have hi1 : (i : Int) < (m : Int) := by omega
        have HO : Hid (ovL ov S (i + 1) = if ov i then ovL ov S i ++ [S i] else ovL ov S i) := hid rfl
        obtain ⟨r, hrr⟩ : ∃ r, r = ov i := ⟨_, rfl⟩
        rw [← hrr] at HMID HO
        generalize ovL ov S i = LL at HO hB hlen
        clear q0 q1 q2 q3 e1 e2 hkk hu hy hrt hrr
        obtain ⟨_, c0, c1, c2, x0, x1, x2, x3⟩ := ov_keep hbz D.out (And.intro hB.out trivial) (Below.refl _ _)
        have hz := hB.out.lb.size
        have hbz2 : bl < wr.heap.size := by have := hB.out.lb.below.size; omega
        go_upto_region 10 with fail
        have HB9 := hid (hB.out.stays (Joins.below_alloc1 wr (.cells #[.int .i64 k, .int .i64 p, .int .i64 q, .int .i64 u] 26)))
        have FG := hid (World.alloc_heap_new wr (.cells #[.int .i64 k, .int .i64 p, .int .i64 q, .int .i64 u] 26))
        generalize World.alloc wr _ = wq at HB9 FG ⊢
        generalize wr.heap.size = g at FG ⊢
        clear c0 c1 c2 x0 x1 x2 x3 hz hbz2
        obtain ⟨_, c0, c1, c2, _⟩ := ov_keep hbz D.out (And.intro HB9.out trivial) (Below.refl _ _)
        obtain ⟨b0, b1, b2, b3, _, _, _, _, hgz⟩ := bx_facts4 FG.out
        have hz := HB9.out.lb.size
        go_wp2_with fail
        refine (crosses_any hW1 hW2 ao n cap Z k u p q hp2 hq2 HL.out t r HMID.out _ HB9.out.lb.ints).mono ?_
        rintro e wz ⟨rfl, hb⟩
        have HZ := hid (HB9.out.stays hb)
        have FZ := hid (kq0 hb FG.out)
        clear hb c0 c1 c2 b0 b1 b2 b3 hz hgz HB9 FG hB
        obtain ⟨b0, b1, b2, b3, _, _, _, _, hgz⟩ := bx_facts4 FZ.out
        have hz := HZ.out.lb.size
        cases r
        · have HO2 : Hid (ovL ov S (i + 1) = LL) := hid (by rw [HO.out]; rfl)
          go_wp2_with fail
          go_roundw
          case rel => exact ⟨i + 1, by omega, by go_num, by rw [HO2.out]; exact HZ⟩
          case measure => simp [intOf]; omega
        · have HO2 : Hid (ovL ov S (i + 1) = LL ++ [S i]) := hid (by rw [HO.out]; rfl)
          go_wp2_with (at_builtin; refine wpList_append_own _ rfl _ _ 34 rfl (w.heap.size + 1) 26 i0 (.agg #[.int .i64 0, .int .i64 0, .int .i64 0, .int .i64 0]) 4 32 Try.underlying34 HIN.out.1 HIN.out.2.1 HIN.out.2.2.1 HIN.out.2.2.2 rfl (by decide) _ _ _ rfl (HZ.out.row.alloc _) ⟨wz.heap.size, 0, none⟩ 1 1 [.int .i64 k, .int .i64 p, .int .i64 q, .int .i64 u] rfl rfl ?c1 ?c2 ?c3 ?c4 ?c5 ?_)
          case c1 =>
            intro j u hj
            match j, hj with
            | 0, hj => simp at hj; subst hj; simp [Addr.add]
            | 1, hj => simp at hj; subst hj; simp [Addr.add]
            | 2, hj => simp at hj; subst hj; simp [Addr.add]
            | 3, hj => simp at hj; subst hj; simp [Addr.add]
          case c2 => intro u hu; simp at hu; rcases hu with rfl | rfl | rfl | rfl <;> rfl
          case c3 => unfold maxLen; omega
          case c4 => omega
          case c5 => simp; omega
          intro v' w5 hown hgrow _
          have H5 := hid (OV.app (v' := v') (w' := w5) (x := S i) HI.out HZ.out _ hgrow (by rw [HSI.out]; exact hown))
          clear hown hgrow
          go_wp2_with fail
          go_roundw
          case rel => exact ⟨i + 1, by omega, by go_num, by rw [HO2.out]; exact H5⟩
          case measure => simp [intOf]; omega
      · obtain rfl : i = m := by omega
        go_wp2_with fail
        go_ret2
        exact ⟨_, rfl, row_mono hB.out.row (by omega), hB.out.lb.below⟩
end Go.Proofs.Ytpohhcmkkjcelaa
