/-
  The walk of Way of the reference.
-/
import Derived.Test.YtlpmahdplilbiaaDoorWalkWay
import Derived.Test.YtlpmahdplilbiaaDoorWalkRLoose
import Derived.Test.YtlpmahdplilbiaaDoorWalkLay
import Derived.StillTailTactics
namespace Go.Proofs.YtlpmahdplilbiaaDoor
open Go.RowKit

section
variable {k : Nat} {W H : Int} {ao bo : Option Addr} {n cap m bcap : Nat} {Z : Nat → Int} {B : Nat → Bool} {t p s : Int} {w a b : World} {S : Nat → Int × Int × Int} {P : Prop}
theorem rbx_keep {X lb off i : Nat} (hX : X = w.heap.size) (hS : SpotsAt w (some ⟨lb, off, none⟩) k S) (hi : i < k ∧ S i = (t, p, s)) (h : RB W H ao n cap Z bo m bcap B w a ∧ P) (hb : Below a.heap.size a b) :
    RB W H ao n cap Z bo m bcap B w b ∧ b.cell? ⟨X, 0, none⟩ = some (.int .i64 W) ∧ b.cell? ⟨X, 1, none⟩ = some (.int .i64 H) ∧ b.cell? ⟨X, 2, none⟩ = some (.slice ao n cap) ∧ b.cell? ⟨X, 3, none⟩ = some (.slice bo m bcap) ∧
      b.cell? ⟨lb, off + i * 3, none⟩ = some (.int .i64 t) ∧ b.cell? ⟨lb, off + i * 3 + 1, none⟩ = some (.int .i64 p) ∧ b.cell? ⟨lb, off + i * 3 + 2, none⟩ = some (.int .i64 s) := by
  subst hX
  have j := h.1.stays hb
  obtain ⟨b', off', he, _, q0, q1, q2⟩ := (hS.stays j.below) i hi.1
  rw [hi.2] at q0 q1 q2
  cases he
  exact ⟨j, j.c0, j.c1, j.c2, j.c3, q0, q1, q2⟩
theorem rbx_ints (h : RB W H ao n cap Z bo m bcap B w a ∧ P) : Ints a ao n Z := h.1.ints
theorem rbx_tab (h : RB W H ao n cap Z bo m bcap B w a ∧ P) : Tab a := h.1.tab
theorem rbx_of (h : RB W H ao n cap Z bo m bcap B w a ∧ P) : RB W H ao n cap Z bo m bcap B w a := h.1
end
/-- Whether a spot is among the first q of a list. -/
def Met (L : List (Int × Int × Int)) (q : Nat) (x : Int × Int × Int) (f : Bool) : Prop := f = true ↔ ∃ i, i < q ∧ L.getD i (0, 0, 0) = x
theorem Met.zero (L : List (Int × Int × Int)) (x : Int × Int × Int) : Met L 0 x false := ⟨fun h => (by cases h), fun ⟨i, hi, _⟩ => by omega⟩
theorem Met.yes {L : List (Int × Int × Int)} {q : Nat} {x : Int × Int × Int} (h : Met L q x true) : Met L (q + 1) x true := by
  obtain ⟨i, hi, e⟩ := h.1 rfl
  exact ⟨fun _ => ⟨i, by omega, e⟩, fun _ => rfl⟩
theorem Met.at {L : List (Int × Int × Int)} {q : Nat} {x : Int × Int × Int} (h : L.getD q (0, 0, 0) = x) : Met L (q + 1) x true := ⟨fun _ => ⟨q, by omega, h⟩, fun _ => rfl⟩
theorem Met.no {L : List (Int × Int × Int)} {q : Nat} {x : Int × Int × Int} (h : Met L q x false) (hn : L.getD q (0, 0, 0) ≠ x) : Met L (q + 1) x false := ⟨fun h => (by cases h), fun ⟨i, hi, e⟩ => by
  by_cases hq : i < q
  · exact h.2 ⟨i, hq, e⟩
  · obtain rfl : i = q := by omega
    exact absurd e hn⟩
theorem Met.mem {L : List (Int × Int × Int)} {x : Int × Int × Int} {f : Bool} (h : Met L L.length x f) : f = true ↔ x ∈ L :=
  h.trans ⟨fun ⟨i, hi, e⟩ => by rw [← e]; exact getD_mem hi, fun hm => mem_getD hm⟩
/-- Which pieces of which tiles the first j spots have passed. -/
def Seen (S : Nat → Int × Int × Int) (j : Nat) (x : Nat) : Bool := decide (∃ i, i < j ∧ (S i).1 * 6 + (S i).2.1 = x)
theorem seen_zero (S : Nat → Int × Int × Int) (N : Nat) : List.replicate N (Value.bool false) = vals N (bv (Seen S 0)) := by
  unfold vals Seen
  apply List.ext_getElem?
  intro i
  by_cases h : i < N
  · simp [h]
  · simp [h]
theorem seen_succ {S : Nat → Int × Int × Int} {j x : Nat} (h : (S j).1 * 6 + (S j).2.1 = x) (N : Nat) : vals N (bv (upd (Seen S j) x true)) = vals N (bv (Seen S (j + 1))) := by
  apply vals_congr
  intro i _
  unfold upd Seen
  by_cases hi : i = x
  · subst hi
    show Value.bool (if i = i then true else _) = _
    rw [if_pos rfl]
    exact congrArg Value.bool (decide_eq_true (p := ∃ q, q < j + 1 ∧ (S q).1 * 6 + (S q).2.1 = i) ⟨j, by omega, h⟩).symm
  · show Value.bool (if i = x then true else _) = _
    rw [if_neg hi]
    refine congrArg Value.bool (decide_eq_decide.2 ?_)
    exact ⟨fun ⟨q, hq, e⟩ => ⟨q, by omega, e⟩, fun ⟨q, hq, e⟩ => ⟨q, by
      by_cases hqj : q < j
      · exact hqj
      · obtain rfl : q = j := by omega
        exact absurd (by omega) hi, e⟩⟩
theorem seen_fresh {n : Nat} {Z : Nat → Int} {k : Nat} {S : Nat → Int × Int × Int} (hs : ∀ i, i < k → IsSpot n Z (S i).1 (S i).2.1 (S i).2.2) {j x : Nat} (hj : j < k) (h : (S j).1 * 6 + (S j).2.1 = x) : Seen S j x = true ↔ ¬ Fresh S j := by
  unfold Seen Fresh
  rw [decide_eq_true_iff, Classical.not_not]
  have hl := (lie_in (hs j hj).2).1
  constructor
  · rintro ⟨i, hi, e⟩
    have hl' := (lie_in (hs i (by omega)).2).1
    exact ⟨i, hi, by omega, by omega⟩
  · rintro ⟨i, hi, e1, e2⟩
    exact ⟨i, hi, by omega⟩
/-- The memory of the last loop. -/
structure SQ (M N : Nat) (F : Nat → Bool) (W H : Int) (ao : Option Addr) (n cap : Nat) (Z : Nat → Int) (bo : Option Addr) (m bcap : Nat) (B : Nat → Bool) (w wr : World) : Prop where
  rb : RB W H ao n cap Z bo m bcap B w wr
  row : wr.ownsRow (w.heap.size + 1) 4 1 (.slice (some ⟨M, 0, none⟩) N N) N (vals N (bv F))
section
variable {M N : Nat} {F : Nat → Bool} {W H : Int} {ao bo : Option Addr} {n cap m bcap : Nat} {Z : Nat → Int} {B : Nat → Bool} {w a b : World}
theorem SQ.stays (h : SQ M N F W H ao n cap Z bo m bcap B w a) (hb : Below a.heap.size a b) : SQ M N F W H ao n cap Z bo m bcap B w b := ⟨h.rb.stays hb, row_stays h.row hb⟩
theorem SQ.at (h : SQ M N F W H ao n cap Z bo m bcap B w a) {x : Nat} (hx : x < N) : a.cell? ⟨M, x, none⟩ = some (.bool (F x)) ∧ a.frozen? ⟨M, x, none⟩ = false ∧ M < a.heap.size :=
  ⟨(h.row.cellAt x (by omega)).trans (vals_get _ hx), h.row.frozenAt x, (h.row.lt M rfl).2⟩
theorem SQ.set (h : SQ M N F W H ao n cap Z bo m bcap B w a) (hT : Tab w) (hI : Ints w ao n Z) (hB : Bools w bo m B) (x : Nat) : SQ M N (upd F x true) W H ao n cap Z bo m bcap B w (a.setCell ⟨M, x, none⟩ (.bool true)) := by
  have r := h.row.stored x (.bool true)
  rw [vals_updB] at r
  exact ⟨h.rb.far hT hI hB ((Below.refl _ a).setCell (p := ⟨M, x, none⟩) (h.row.lt M rfl).1 _), r.1⟩
end

set_option maxRecDepth 20000 in
set_option maxHeartbeats 6400000 in
theorem refway_right (W H : Int) (ao : Option Addr) (n cap : Nat) (Z : Nat → Int) (bo : Option Addr) (m bcap : Nat) (B : Nat → Bool) (hn : n ≤ 9223372036854775807) (hm : m ≤ 9223372036854775807) (lo : Option Addr) (k lcap : Nat) (hk : k ≤ 3000) (S : Nat → Int × Int × Int) (e e0 : Int) (hR : Right W H n m Z B) (hL : LErrs n Z k S e0) (he : (e0 ≠ 0 ∧ e = e0) ∨ (e0 = 0 ∧ WRest W H Z k S e))
    (w : World) (hT : Tab w) (hI : Ints w ao n Z) (hB : Bools w bo m B) (hS : SpotsAt w lo k S) :
    Calls Tryd.prog 37 #[rv W H (.slice ao n cap) (.slice bo m bcap), .slice lo k lcap] w fun r w' => r = .returned (.int .i64 e) ∧ Below w.heap.size w w' := by
  obtain ⟨i0, hi, hz0, hz1, hz2⟩ := info_parts info4
  have hmk := @run_make_full
  have HL := hid hL
  have HE := hid he
  have HS := hid hS
  have HT := hid hT
  have HI0 := hid hI
  have HB := hid hB
  have HR0 := hid (rb_start (Wd := W) (Hd := H) (cap := cap) (bcap := bcap) hT hI hB)
  have HV := hid (verr_ok hR)
  have HR := hid hR
  have hbd := hR.sized.bound
  have hnW := hR.sets
  have HN2 : Hid (n ≤ 1024) := hid (by omega)
  obtain ⟨X, hX⟩ : ∃ X, X = w.heap.size := ⟨_, rfl⟩
  have HX := hid hX
  clear hL he hS hT hI hB hR hbd hnW hmk
  go_enter Tryd.func37, Tryd.ntmps37
  go_wp2_with fail
  refine (refvalidate_any W H ao n cap Z bo m bcap B hn hm _ HR0.out.ints HR0.out.bools 0 HV.out).mono ?_
  rintro r w1 ⟨rfl, hb1⟩
  have H1 := hid (HR0.out.stays hb1)
  simp only [← hX]
  clear hb1 hX HR0 HV
  go_wp2_with fail
  go_loopw [6] (fun iv wr => ∃ j : Nat, j ≤ k ∧ iv = .int .i64 j ∧ Hid (RB W H ao n cap Z bo m bcap B w wr) ∧ Hid (∀ i, i < j → IsSpot n Z (S i).1 (S i).2.1 (S i).2.2)) (fun iv _ => k - (intOf iv).toNat)
  case atStart => exact ⟨0, Nat.zero_le _, rfl, H1, hid (fun i hi => by omega)⟩
  case round =>
    obtain ⟨j, hj, rfl, hR, hD⟩ := hrel
    clear H1
    by_cases hlt : j < k
    · obtain ⟨lb, off, rfl, hbz, q0, q1, q2⟩ := (HS.out.stays hR.out.below) j hlt
      obtain ⟨⟨t, p, s⟩, hx⟩ : ∃ x, S j = x := ⟨_, rfl⟩
      obtain ⟨e', hE⟩ := SErr.ex n Z t p s
      have HSE := hid hE
      have HJ := hid (And.intro hlt hx)
      have y3 : (0 : Int) ≤ (j : Int) := by omega
      have y4 : (j : Int) < (k : Int) := by omega
      clear q0 q1 q2 hx hE hbz
      go_wp2_with fail
      go_region_held3 (fun w' => RB W H ao n cap Z bo m bcap B w w' ∧ w'.cell? ⟨X, 0, none⟩ = some (.int .i64 W) ∧ w'.cell? ⟨X, 1, none⟩ = some (.int .i64 H) ∧ w'.cell? ⟨X, 2, none⟩ = some (.slice ao n cap) ∧ w'.cell? ⟨X, 3, none⟩ = some (.slice bo m bcap) ∧ w'.cell? ⟨lb, off + j * 3, none⟩ = some (.int .i64 t) ∧ w'.cell? ⟨lb, off + j * 3 + 1, none⟩ = some (.int .i64 p) ∧ w'.cell? ⟨lb, off + j * 3 + 2, none⟩ = some (.int .i64 s))
        (first
          | exact rbx_keep HX.out HS.out HJ.out (And.intro hR.out trivial) ((Below.refl _ _).drew)
          | exact rbx_keep HX.out HS.out HJ.out (by assumption) hb
          | assumption)
        (first
          | (go_at_call 55; (refine (spotError_to W H ao n cap Z _ (fun i hi => ⟨(HR.out.fine i hi).1, (HR.out.fine i hi).2.1⟩) t p s e' HSE.out _ (rbx_ints (by assumption))).mono ?_); rintro r w6 ⟨rfl, hb⟩))
      have HW3 : Hid (RB W H ao n cap Z bo m bcap B w _) := hid (rbx_of (by assumption))
      by_cases he0 : e' = 0
      · subst he0
        have HSJ : Hid (IsSpot n Z t p s) := hid HSE.out.spot
        go_wp2_with fail
        go_roundw
        case rel =>
          refine ⟨j + 1, by omega, by go_num, HW3, hid (fun q hq => ?_)⟩
          by_cases hqj : q < j
          · exact hD.out q hqj
          · obtain rfl : q = j := by omega
            rw [HJ.out.2]; exact HSJ.out
        case measure => simp [intOf]; omega
      · have g1 : (e' != 0) = true := by simpa using he0
        have HE0 := hid he0
        clear he0
        go_wp2_with fail
        go_ret
        have hmet : e' = e0 := HL.out.met hlt hD.out (by rw [HJ.out.2]; exact HSE.out) HE0.out
        refine ⟨ret_int ?_, HW3.out.below⟩
        rcases HE.out with ⟨_, h⟩ | ⟨h, _⟩
        · rw [h]; exact hmet
        · exact absurd (hmet.trans h) HE0.out
    · obtain rfl : k = j := by omega
      have h00 : 0 = e0 := HL.out.none hD.out
      have HRest : Hid (WRest W H Z k S e) := hid (by rcases HE.out with ⟨h, _⟩ | ⟨_, h⟩; exact absurd h00.symm h; exact h)
      clear h00
      go_wp2_with fail
      go_loopw [8] (fun iv wr => ∃ j : Nat, 1 ≤ j ∧ iv = .int .i64 j ∧ Hid (RB W H ao n cap Z bo m bcap B w wr) ∧ Hid (∀ i, i < j → i < k → StepAt W H Z S i)) (fun iv _ => k - (intOf iv).toNat)
      case atStart => exact ⟨1, Nat.le_refl _, rfl, hR, hid (fun i hi _ h => by omega)⟩
      case round =>
        obtain ⟨j, hj1, rfl, hR, hC⟩ := hrel
        by_cases hlt : j < k
        · obtain ⟨i, rfl⟩ : ∃ i, j = i + 1 := ⟨j - 1, by omega⟩
          obtain ⟨lb, off, rfl, hbz, q0, q1, q2⟩ := (HS.out.stays hR.out.below) i (by omega)
          obtain ⟨⟨t, p, s⟩, hx⟩ : ∃ x, S i = x := ⟨_, rfl⟩
          obtain ⟨⟨a, b, c⟩, hx'⟩ : ∃ x, S (i + 1) = x := ⟨_, rfl⟩
          have HI := hid (And.intro (show i < k by omega) hx)
          have HJ := hid (And.intro hlt hx')
          have HST : Hid (StepAt W H Z S (i + 1) ↔ (a, b, c) ∈ nxt W H Z t s) := hid (by unfold StepAt; simp [hx, hx'])
          have hsp := hD.out i (by omega)
          rw [hx] at hsp
          have hot := oth_yes hsp.1
          have hli := (lie_in hsp.2).1
          have hset := HR.out.sets
          have HQ := hid (And.intro hli.1 (show t < W * H by simp only at hli; omega))
          have HQ2 := hid (And.intro hot.2.1 hot.2.2.1)
          have hkl := nxt_len W H Z t s
          have y3 : (0 : Int) ≤ (i : Int) := by omega
          have y4 : (i : Int) < (k : Int) := by omega
          have y5 : IntKind.i64.wrap ((i : Int) + 1 - 1) = (i : Int) := by rw [show (i : Int) + 1 - 1 = i by omega]; exact IntWalk.i64_in _ (by omega)
          have y6 : IntKind.i64.wrap (i : Int) = (i : Int) := IntWalk.i64_in _ (by omega)
          clear q0 q1 q2 hx hx' hbz hsp hot hli hset hj1
          obtain ⟨L, hLL⟩ : ∃ L, L = nxt W H Z t s := ⟨_, rfl⟩
          rw [← hLL] at HST hkl
          have HLL := hid hLL
          clear hLL
          go_wp2_with fail
          go_region_held3 (fun w' => RB W H ao n cap Z bo m bcap B w w' ∧ w'.cell? ⟨X, 0, none⟩ = some (.int .i64 W) ∧ w'.cell? ⟨X, 1, none⟩ = some (.int .i64 H) ∧ w'.cell? ⟨X, 2, none⟩ = some (.slice ao n cap) ∧ w'.cell? ⟨X, 3, none⟩ = some (.slice bo m bcap) ∧ w'.cell? ⟨lb, off + i * 3, none⟩ = some (.int .i64 t) ∧ w'.cell? ⟨lb, off + i * 3 + 1, none⟩ = some (.int .i64 p) ∧ w'.cell? ⟨lb, off + i * 3 + 2, none⟩ = some (.int .i64 s))
            (first
              | exact rbx_keep HX.out HS.out HI.out (And.intro hR.out trivial) ((Below.refl _ _).drew)
              | exact rbx_keep HX.out HS.out HI.out (by assumption) hb
              | assumption)
            (first
              | (go_at_call 56; (refine (reffollow_any W H ao n cap Z _ HR.out.sized HR.out.sets (fun i hi => ⟨(HR.out.fine i hi).1, (HR.out.fine i hi).2.1⟩) t p s HQ.out.1 HQ.out.2 HQ2.out.1 HQ2.out.2 _ (rbx_tab (by assumption)) (rbx_ints (by assumption))).mono ?_); rw [← HLL.out]; rintro r w6 ⟨lst, rfl, hrow, hb⟩; obtain ⟨al, cl, rfl⟩ := row_slice hrow))
          have HW3 : Hid (RB W H ao n cap Z bo m bcap B w _) := hid (rbx_of (by assumption))
          have HROW := hid hrow
          clear hrow
          obtain ⟨b', off', he, hbz, q0, q1, q2⟩ := (HS.out.stays HW3.out.below) (i + 1) hlt
          obtain ⟨rfl, rfl⟩ : lb = b' ∧ off = off' := by simpa using he
          rw [HJ.out.2] at q0 q1 q2
          simp only at q0 q1 q2
          have y7 : (0 : Int) ≤ (i : Int) + 1 := by omega
          have y8 : (i : Int) + 1 < (k : Int) := by omega
          have HML := hid (Met.zero L (a, b, c))
          clear he hbz y5 y6 y3 y4
          go_wp2_with fail
          go_loopw [11, 9] (fun iv fv wr => ∃ (q r : Nat) (fb : Bool), q ≤ L.length ∧ iv = .int .i64 q ∧ fv = .bool fb ∧ wr = w6.drewN r ∧ Hid (Met L q (a, b, c) fb)) (fun iv _ _ => L.length - (intOf iv).toNat)
          case atStart => exact ⟨0, 0, false, Nat.zero_le _, rfl, rfl, rfl, HML⟩
          case round =>
            obtain ⟨q, r, fb, hq, rfl, rfl, rfl, hfd⟩ := hrel
            clear HML
            by_cases hql : q < L.length
            · obtain ⟨gl, cl2, he, _, _⟩ := HROW.out.form (by omega)
              obtain ⟨rfl, rfl⟩ : al = some ⟨gl, 0, none⟩ ∧ cl = cl2 := by simpa using he
              have e3 := encS_get L q hql
              have k0 := (HROW.out.cellAt (q * 3) (by omega)).trans e3.1
              have k1 := (HROW.out.cellAt (q * 3 + 1) (by omega)).trans e3.2.1
              have k2 := (HROW.out.cellAt (q * 3 + 2) (by omega)).trans e3.2.2
              obtain ⟨⟨a', b', c'⟩, hx⟩ : ∃ x, L.getD q (0, 0, 0) = x := ⟨_, rfl⟩
              rw [hx] at k0 k1 k2
              simp only at k0 k1 k2
              have HX2 := hid hx
              have y9 : (0 : Int) ≤ (q : Int) := by omega
              have y10 : (q : Int) < (L.length : Int) := by omega
              clear e3 hx he
              cases fb
              · by_cases ha : a' = a ∧ b' = b ∧ c' = c
                · obtain ⟨rfl, rfl, rfl⟩ := ha
                  go_wp2_with fail
                  go_quiet (fail)
                  go_wp2_with fail
                  go_roundw
                  case rel => exact ⟨q + 1, _, true, by omega, by go_num, rfl, rfl, hid (Met.at HX2.out)⟩
                  case measure => simp [intOf]; omega
                · have HNM : Hid (Met L (q + 1) (a, b, c) false) := hid (hfd.out.no (by rw [HX2.out]; intro h; simp only [Prod.mk.injEq] at h; exact ha h))
                  have hcs : (a' == a) = false ∨ (a' = a ∧ (b' == b) = false) ∨ (a' = a ∧ b' = b ∧ (c' == c) = false) := by
                    by_cases h1 : a' = a
                    · by_cases h2 : b' = b
                      · exact .inr (.inr ⟨h1, h2, by simpa using fun h3 => ha ⟨h1, h2, h3⟩⟩)
                      · exact .inr (.inl ⟨h1, by simpa using h2⟩)
                    · exact .inl (by simpa using h1)
                  clear ha HX2
                  rcases hcs with h1 | ⟨rfl, h2⟩ | ⟨rfl, rfl, h3⟩
                  all_goals
                    go_wp2_with fail
                    go_quiet (fail)
                    go_wp2_with fail
                    go_roundw
                    case rel => exact ⟨q + 1, _, false, by omega, by go_num, rfl, rfl, HNM⟩
                    case measure => simp [intOf]; omega
              · have HNM := hid hfd.out.yes
                go_wp2_with fail
                go_quiet (fail)
                go_wp2_with fail
                go_roundw
                case rel => exact ⟨q + 1, _, true, by omega, by go_num, rfl, rfl, HNM⟩
                case measure => simp [intOf]; omega
            · obtain rfl : q = L.length := by omega
              have HW7 := hid (HW3.out.stays (Joins.below_draws _ _ r))
              have HSA : Hid (StepAt W H Z S (i + 1) ↔ fb = true) := hid (HST.out.trans hfd.out.mem.symm)
              cases fb
              · have HNS : Hid (¬ StepAt W H Z S (i + 1)) := hid (fun h => by have := HSA.out.1 h; cases this)
                clear HSA hfd
                go_wp2_with fail
                go_ret
                exact ⟨ret_int (HRest.out.noStep hlt HNS.out), HW7.out.below⟩
              · have HYS : Hid (StepAt W H Z S (i + 1)) := hid (HSA.out.2 rfl)
                clear HSA hfd
                go_wp2_with fail
                go_roundw
                case rel =>
                  refine ⟨i + 2, by omega, by go_num, HW7, hid (fun q hq hqk => ?_)⟩
                  by_cases hqi : q < i + 1
                  · exact hC.out q hqi hqk
                  · obtain rfl : q = i + 1 := by omega
                    exact HYS.out
                case measure => simp [intOf]; omega
        · have HST : Hid (∀ i, i < k → StepAt W H Z S i) := hid (fun i hi => hC.out i (by omega) hi)
          clear hC hj1
          have c0 := hR.out.c0
          have c1 := hR.out.c1
          have c2 := hR.out.c2
          have c3 := hR.out.c3
          rw [← HX.out] at c0 c1 c2 c3
          have hn2 := HN2.out
          have hbytes : i0.bytes * (n * 6) ≤ 281474976710656 := by rw [hz2]; omega
          have hmax : n * 6 ≤ maxLen := by unfold maxLen; omega
          have hwz := hR.out.size
          have HIN := hid (And.intro hi (And.intro hz0 hz1))
          clear hi hz0 hz1 hz2
          go_wp2_with (at_make; refine wpList_make_full _ rfl _ _ 23 rfl (w.heap.size + 1) 4 i0 (.bool false) 1 Tryd.underlying23 HIN.out.1 HIN.out.2.1 HIN.out.2.2 .i64 .i64 ((n : Int) * 6) ((n : Int) * 6) (n * 6) rfl rfl (by omega) (by omega) hbytes hmax hwz ?_; intro w4 hown4 hgrow4)
          have HQ : Hid (SQ wr.heap.size (n * 6) (Seen S 0) W H ao n cap Z bo m bcap B w w4) := hid (by
            rw [show (madeCells (Value.bool false).cells (n * 6 * 1)).toList = vals (n * 6) (bv (Seen S 0)) by rw [Nat.mul_one]; exact (toList_madeCells_one _ _).trans (seen_zero S _)] at hown4
            exact ⟨hR.out.stays ((Below.refl _ wr).grown hgrow4 (Nat.le_refl _) (fun k hk => by cases hk)), hown4⟩)
          obtain ⟨M, hM⟩ : ∃ M, M = wr.heap.size := ⟨_, rfl⟩
          obtain ⟨N, hN⟩ : ∃ N, N = n * 6 := ⟨_, rfl⟩
          rw [← hM, ← hN] at HQ
          simp only [← hM, ← hN]
          have HN := hid hN
          clear c0 c1 c2 c3 hown4 hgrow4 hM hN hbytes hmax hwz hR
          go_loopw [13] (fun iv wr => ∃ j : Nat, j ≤ k ∧ iv = .int .i64 j ∧ Hid (SQ M N (Seen S j) W H ao n cap Z bo m bcap B w wr) ∧ Hid (∀ i, i < j → Fresh S i)) (fun iv _ => k - (intOf iv).toNat)
          case atStart => exact ⟨0, Nat.zero_le _, rfl, HQ, hid (fun i hi => by omega)⟩
          case round =>
            obtain ⟨j, hj, rfl, hQ, hF⟩ := hrel
            clear HQ
            by_cases hlt : j < k
            · obtain ⟨lb, off, rfl, hbz, q0, q1, q2⟩ := (HS.out.stays hQ.out.rb.below) j hlt
              obtain ⟨⟨t, p, s⟩, hx⟩ : ∃ x, S j = x := ⟨_, rfl⟩
              have hsp := hD.out j hlt
              rw [hx] at hsp q0 q1 q2
              simp only at q0 q1 q2
              have hli := (lie_in hsp.2).1
              simp only at hli
              obtain ⟨t0, rfl⟩ := Int.eq_ofNat_of_zero_le hli.1
              obtain ⟨p0, rfl⟩ := Int.eq_ofNat_of_zero_le hli.2.2.1
              obtain ⟨x, hxx⟩ : ∃ x : Nat, (x : Int) = (t0 : Int) * 6 + (p0 : Int) := ⟨t0 * 6 + p0, by push_cast; rfl⟩
              have hxN : x < N := by have := HN.out; omega
              have HX1 : Hid ((S j).1 * 6 + (S j).2.1 = x) := hid (by rw [hx]; exact hxx.symm)
              have hfr := seen_fresh hD.out hlt HX1.out
              have y3 : (0 : Int) ≤ (j : Int) := by omega
              have y4 : (j : Int) < (k : Int) := by omega
              have y5 : IntKind.i64.wrap ((t0 : Int) * 6) = (t0 : Int) * 6 := IntWalk.i64_in _ (by omega)
              have y6 : IntKind.i64.wrap ((t0 : Int) * 6 + (p0 : Int)) = (x : Int) := by rw [← hxx]; exact IntWalk.i64_in _ (by omega)
              have y7 : (0 : Int) ≤ (x : Int) := by omega
              have y8 : (x : Int) < (N : Int) := by omega
              obtain ⟨u0, f0, z0⟩ := hQ.out.at hxN
              have HXX := hid hx
              clear hx hsp hli hxx
              cases hsn : Seen S j x
              · have HFJ : Hid (Fresh S j) := hid (Classical.byContradiction fun h => by have := hfr.2 h; rw [hsn] at this; cases this)
                rw [hsn] at u0
                clear hfr hsn
                go_wp2_with fail
                go_quiet (fail)
                rename_i nq
                have hQ2 := hid (hQ.out.stays (Joins.below_draws _ _ nq))
                clear u0 f0 z0 q0 q1 q2
                generalize wr.drewN nq = w5 at hQ2 ⊢
                obtain ⟨b', off', he, hbz', q0, q1, q2⟩ := (HS.out.stays hQ2.out.rb.below) j hlt
                obtain ⟨rfl, rfl⟩ : lb = b' ∧ off = off' := by simpa using he
                rw [HXX.out] at q0 q1 q2
                simp only at q0 q1 q2
                obtain ⟨u0, f0, z0⟩ := hQ2.out.at hxN
                clear he
                go_wp2_with fail
                go_still_tail 14, (by kernel_rfl)
                change wpList _ _ _ _ _ w5.drew
                have hQ3 : Hid (SQ M N (Seen S j) W H ao n cap Z bo m bcap B w w5.drew) := hid (hQ2.out.stays ((Below.refl _ _).drew))
                clear u0 f0 z0 q0 q1 q2 hQ2 hbz'
                generalize w5.drew = w6 at hQ3 ⊢
                obtain ⟨u0, f0, z0⟩ := hQ3.out.at hxN
                have hQ4 : Hid (SQ M N (Seen S (j + 1)) W H ao n cap Z bo m bcap B w (w6.setCell ⟨M, x, none⟩ (.bool true))) := hid (by
                  have h := hQ3.out.set HT.out HI0.out HB.out x
                  exact ⟨h.rb, by rw [← seen_succ HX1.out N]; exact h.row⟩)
                go_wp2_with fail
                go_roundw
                case rel =>
                  refine ⟨j + 1, by omega, by go_num, hQ4, hid (fun q hq => ?_)⟩
                  by_cases hqj : q < j
                  · exact hF.out q hqj
                  · obtain rfl : q = j := by omega
                    exact HFJ.out
                case measure => simp [intOf]; omega
              · have HFJ : Hid (¬ Fresh S j) := hid (hfr.1 hsn)
                rw [hsn] at u0
                clear hfr hsn
                go_wp2_with fail
                go_quiet (fail)
                rename_i nq
                have hQ2 := hid (hQ.out.stays (Joins.below_draws _ _ nq))
                go_wp2_with fail
                go_ret
                exact ⟨ret_int (HRest.out.noFresh HST.out hlt HFJ.out), hQ2.out.rb.below⟩
            · obtain rfl : j = k := by omega
              go_wp2_with fail
              go_ret
              exact ⟨ret_int (HRest.out.done HST.out hF.out), hQ.out.rb.below⟩
end Go.Proofs.YtlpmahdplilbiaaDoor
