/-
  The walk of Way of the program: whether spots are a way.
-/
import Derived.Test.YtlpmahdplilbiabDoorWalkHas
import Derived.Test.YtlpmahdplilbiabDoorMaps
import Derived.Test.YtlpmahdplilbiabDoorWalkLoose
namespace Go.Proofs.YtlpmahdplilbiabDoor
open Go.RowKit

/-- A spot of a list follows the one before; its piece has not been passed yet. -/
def StepAt (W H : Int) (Z : Nat → Int) (S : Nat → Int × Int × Int) (i : Nat) : Prop := 0 < i → S i ∈ nxt W H Z (S (i - 1)).1 (S (i - 1)).2.2
def Fresh (S : Nat → Int × Int × Int) (i : Nat) : Prop := ¬ ∃ j, j < i ∧ (S j).1 = (S i).1 ∧ (S j).2.1 = (S i).2.1
def WRest (W H : Int) (Z : Nat → Int) (k : Nat) (S : Nat → Int × Int × Int) (e : Int) : Prop :=
  (e = 8 ∧ ∃ i, i < k ∧ ¬ StepAt W H Z S i) ∨ ((∀ i, i < k → StepAt W H Z S i) ∧ e = 3 ∧ ∃ i, i < k ∧ ¬ Fresh S i) ∨ ((∀ i, i < k → StepAt W H Z S i) ∧ (∀ i, i < k → Fresh S i) ∧ e = 0)
/-- What Way gives. -/
def WayIs (W H : Int) (n m : Nat) (Z : Nat → Int) (B : Nat → Bool) (k : Nat) (S : Nat → Int × Int × Int) (e : Int) : Prop :=
  ∃ e0, WErrs W H n m Z B k S e0 ∧ ((e0 ≠ 0 ∧ e = e0) ∨ (e0 = 0 ∧ WRest W H Z k S e))
theorem WRest.ex (W H : Int) (Z : Nat → Int) (k : Nat) (S : Nat → Int × Int × Int) : ∃ e, WRest W H Z k S e := by
  by_cases h1 : ∃ i, i < k ∧ ¬ StepAt W H Z S i
  · exact ⟨8, .inl ⟨rfl, h1⟩⟩
  · have h1' : ∀ i, i < k → StepAt W H Z S i := fun i hi => Classical.byContradiction fun h => h1 ⟨i, hi, h⟩
    by_cases h2 : ∃ i, i < k ∧ ¬ Fresh S i
    · exact ⟨3, .inr (.inl ⟨h1', rfl, h2⟩)⟩
    · exact ⟨0, .inr (.inr ⟨h1', fun i hi => Classical.byContradiction fun h => h2 ⟨i, hi, h⟩, rfl⟩)⟩
theorem WayIs.ex (W H : Int) (n m : Nat) (Z : Nat → Int) (B : Nat → Bool) (k : Nat) (S : Nat → Int × Int × Int) : ∃ e, WayIs W H n m Z B k S e := by
  obtain ⟨e0, h0⟩ := WErrs.ex W H n m Z B k S
  by_cases h : e0 = 0
  · obtain ⟨e, he⟩ := WRest.ex W H Z k S
    exact ⟨e, e0, h0, .inr ⟨h, he⟩⟩
  · exact ⟨e0, e0, h0, .inl ⟨h, rfl⟩⟩
section
variable {W H : Int} {Z : Nat → Int} {k : Nat} {S : Nat → Int × Int × Int} {e : Int}
theorem WRest.noStep (h : WRest W H Z k S e) {i : Nat} (hi : i < k) (hn : ¬ StepAt W H Z S i) : 8 = e := by
  rcases h with ⟨rfl, _⟩ | ⟨h, _⟩ | ⟨h, _⟩
  · rfl
  · exact absurd (h i hi) hn
  · exact absurd (h i hi) hn
theorem WRest.noFresh (h : WRest W H Z k S e) (hs : ∀ i, i < k → StepAt W H Z S i) {i : Nat} (hi : i < k) (hn : ¬ Fresh S i) : 3 = e := by
  rcases h with ⟨_, j, hj, h⟩ | ⟨_, rfl, _⟩ | ⟨_, h, _⟩
  · exact absurd (hs j hj) h
  · rfl
  · exact absurd (h i hi) hn
theorem WRest.done (h : WRest W H Z k S e) (hs : ∀ i, i < k → StepAt W H Z S i) (hf : ∀ i, i < k → Fresh S i) : 0 = e := by
  rcases h with ⟨_, j, hj, h⟩ | ⟨_, _, j, hj, h⟩ | ⟨_, _, rfl⟩
  · exact absurd (hs j hj) h
  · exact absurd (hf j hj) h
  · rfl
theorem WErrs.ok {n m : Nat} {B : Nat → Bool} (h : WErrs W H n m Z B k S 0) : Right W H n m Z B ∧ ∀ i, i < k → IsSpot n Z (S i).1 (S i).2.1 (S i).2.2 := by
  rcases h with ⟨h, _⟩ | ⟨hR, ⟨_, h⟩ | ⟨h, _⟩⟩
  · cases h
  · exact ⟨hR, h⟩
  · exact absurd rfl h
end

/-- The memory of a step: the box of the rails, a spot's box. -/
structure WS (C : Nat) (W H : Int) (ao : Option Addr) (n cap : Nat) (Z : Nat → Int) (bo : Option Addr) (m bcap : Nat) (B : Nat → Bool) (t p s : Int) (w wr : World) : Prop where
  rb : RB W H ao n cap Z bo m bcap B w wr
  bk : wr.heap[C]? = some (.cells #[.int .i64 t, .int .i64 p, .int .i64 s] 32 (0, 0))
section
variable {C k : Nat} {W H : Int} {ao bo : Option Addr} {n cap m bcap : Nat} {Z : Nat → Int} {B : Nat → Bool} {t p s t' p' s' : Int} {w a b : World} {S : Nat → Int × Int × Int} {P : Prop}
theorem WS.stays (h : WS C W H ao n cap Z bo m bcap B t p s w a) (hb : Below a.heap.size a b) : WS C W H ao n cap Z bo m bcap B t p s w b := ⟨h.rb.stays hb, (hb.block _ (heap_lt h.bk)).trans h.bk⟩
theorem ws_keep {X lb off i : Nat} (hX : X = w.heap.size) (hS : SpotsAt w (some ⟨lb, off, none⟩) k S) (hi : i < k ∧ S i = (t', p', s')) (h : WS C W H ao n cap Z bo m bcap B t p s w a ∧ P) (hb : Below a.heap.size a b) :
    WS C W H ao n cap Z bo m bcap B t p s w b ∧ b.cell? ⟨X, 0, none⟩ = some (.int .i64 W) ∧ b.cell? ⟨X, 1, none⟩ = some (.int .i64 H) ∧ b.cell? ⟨X, 2, none⟩ = some (.slice ao n cap) ∧ b.cell? ⟨X, 3, none⟩ = some (.slice bo m bcap) ∧
      b.cell? ⟨lb, off + i * 3, none⟩ = some (.int .i64 t') ∧ b.cell? ⟨lb, off + i * 3 + 1, none⟩ = some (.int .i64 p') ∧ b.cell? ⟨lb, off + i * 3 + 2, none⟩ = some (.int .i64 s') ∧
      b.cell? ⟨C, 0, none⟩ = some (.int .i64 t) ∧ b.cell? ⟨C, 1, none⟩ = some (.int .i64 p) ∧ b.cell? ⟨C, 2, none⟩ = some (.int .i64 s) := by
  subst hX
  have j := h.1.stays hb
  obtain ⟨b', off', he, _, q0, q1, q2⟩ := (hS.stays j.rb.below) i hi.1
  rw [hi.2] at q0 q1 q2
  cases he
  exact ⟨j, j.rb.c0, j.rb.c1, j.rb.c2, j.rb.c3, q0, q1, q2, cell_of_row b C 0 _ _ _ j.bk, cell_of_row b C 1 _ _ _ j.bk, cell_of_row b C 2 _ _ _ j.bk⟩
theorem ws_tab (h : WS C W H ao n cap Z bo m bcap B t p s w a ∧ P) : Tab a := h.1.rb.tab
theorem ws_ints (h : WS C W H ao n cap Z bo m bcap B t p s w a ∧ P) : Ints a ao n Z := h.1.rb.ints
theorem ws_of (h : WS C W H ao n cap Z bo m bcap B t p s w a ∧ P) : WS C W H ao n cap Z bo m bcap B t p s w a := h.1
end

set_option maxRecDepth 20000 in
set_option maxHeartbeats 6400000 in
theorem way_to (W H : Int) (ao : Option Addr) (n cap : Nat) (Z : Nat → Int) (bo : Option Addr) (m bcap : Nat) (B : Nat → Bool) (hn : n ≤ 9223372036854775807) (hm : m ≤ 9223372036854775807) (lo : Option Addr) (k lcap : Nat) (hk : k ≤ 3000) (S : Nat → Int × Int × Int) (e : Int) (h : WayIs W H n m Z B k S e)
    (w : World) (hT : Tab w) (hI : Ints w ao n Z) (hB : Bools w bo m B) (hS : SpotsAt w lo k S) :
    Calls Tryd.prog 7 #[rv W H (.slice ao n cap) (.slice bo m bcap), .slice lo k lcap] w fun r w' => r = .returned (.int .i64 e) ∧ Below w.heap.size w w' := by
  have hmm := @run_makeMap Tryd.prog
  obtain ⟨e0, hE, hrest⟩ := h
  have HE := hid hE
  have HS := hid hS
  have HR0 := hid (rb_start (Wd := W) (Hd := H) (cap := cap) (bcap := bcap) hT hI hB)
  have HS0 := hid (hS.stays (Joins.below_alloc1 w (.cells #[.int .i64 W, .int .i64 H, .slice ao n cap, .slice bo m bcap] 25)))
  obtain ⟨X, hX⟩ : ∃ X, X = w.heap.size := ⟨_, rfl⟩
  have HX := hid hX
  have HT := hid hT
  have HI0 := hid hI
  have HB := hid hB
  clear hE hS hT hI hB
  rcases hrest with ⟨he, rfl⟩ | ⟨rfl, hrest⟩
  · have g1 : (e != 0) = true := by simpa using he
    clear he
    go_enter Tryd.func7, Tryd.ntmps7
    go_wp2_with fail
    refine (spots_to W H ao n cap Z bo m bcap B hn hm lo k lcap (by omega) S e HE.out _ HR0.out.tab HR0.out.ints HR0.out.bools HS0.out).mono ?_
    rintro r w1 ⟨rfl, hb1⟩
    have H1 := hid (HR0.out.stays hb1)
    clear hb1
    go_wp2_with fail
    go_ret
    exact ⟨rfl, H1.out.below⟩
  · have HRest := hid hrest
    have HOK := hid HE.out.ok
    have hbd := HOK.out.1.sized.bound
    have hnW := HOK.out.1.sets
    have HN2 : Hid (n ≤ 1024) := hid (by omega)
    clear hrest hbd hnW
    go_enter Tryd.func7, Tryd.ntmps7
    go_wp2_with fail
    refine (spots_to W H ao n cap Z bo m bcap B hn hm lo k lcap (by omega) S 0 HE.out _ HR0.out.tab HR0.out.ints HR0.out.bools HS0.out).mono ?_
    rintro r w1 ⟨rfl, hb1⟩
    have H1 := hid (HR0.out.stays hb1)
    simp only [← hX]
    clear hb1 hX HR0 HS0
    go_wp2_with fail
    go_loopw [19] (fun iv wr => ∃ j : Nat, j ≤ k ∧ iv = .int .i64 j ∧ Hid (RB W H ao n cap Z bo m bcap B w wr) ∧ Hid (∀ i, i < j → StepAt W H Z S i)) (fun iv _ => k - (intOf iv).toNat)
    case atStart => exact ⟨0, Nat.zero_le _, rfl, H1, hid (fun i hi => by omega)⟩
    case round =>
      obtain ⟨j, hj, rfl, hR, hD⟩ := hrel
      clear H1
      by_cases hlt : j < k
      · obtain ⟨lb, off, rfl, hbz, q0, q1, q2⟩ := (HS.out.stays hR.out.below) j hlt
        obtain ⟨⟨t, p, s⟩, hx⟩ : ∃ x, S j = x := ⟨_, rfl⟩
        rw [hx] at q0 q1 q2
        simp only at q0 q1 q2
        have HXX := hid hx
        have HW1 : Hid (WS wr.heap.size W H ao n cap Z bo m bcap B t p s w (wr.alloc (.cells #[.int .i64 t, .int .i64 p, .int .i64 s] 32))) := hid ⟨hR.out.stays (Joins.below_alloc1 _ _), by show (wr.heap.push _)[_]? = _; rw [Array.getElem?_push, if_pos rfl]⟩
        obtain ⟨C, hC⟩ : ∃ C, C = wr.heap.size := ⟨_, rfl⟩
        rw [← hC] at HW1
        rcases Nat.eq_zero_or_pos j with rfl | hj0
        · clear hx
          simp only [Nat.zero_mul, Nat.add_zero] at q0 q1 q2
          go_wp2_with fail
          go_quiet (fail)
          go_wp2_with fail
          go_roundw
          case rel => exact ⟨1, by omega, by go_num, hid (HW1.out.rb.stays (Joins.below_draws _ _ _)), hid (fun i hi h => by omega)⟩
          case measure => simp [intOf]; omega
        · obtain ⟨i, rfl⟩ : ∃ i, j = i + 1 := ⟨j - 1, by omega⟩
          obtain ⟨⟨t', p', s'⟩, hx'⟩ : ∃ x, S i = x := ⟨_, rfl⟩
          have HI := hid (And.intro (show i < k by omega) hx')
          obtain ⟨g, hg⟩ : ∃ g : Bool, g = true ↔ (t, p, s) ∈ nxt W H Z t' s' := ⟨decide ((t, p, s) ∈ nxt W H Z t' s'), by simp⟩
          have HG := hid hg
          have HST : Hid (StepAt W H Z S (i + 1) ↔ g = true) := hid (by rw [hg]; unfold StepAt; simp [hx, hx'])
          have hsp := HOK.out.2 i (by omega)
          rw [hx'] at hsp
          have hot := oth_yes hsp.1
          have hli := (lie_in hsp.2).1
          have hset := HOK.out.1.sets
          have HQ := hid (And.intro hli.1 (show t' < W * H by simp only at hli; omega))
          have HQ2 := hid (And.intro hot.2.1 hot.2.2.1)
          have hkl := nxt_len W H Z t' s'
          have HKL : Hid ((nxt W H Z t' s').length ≤ 30000) := hid (by omega)
          have hw1 : IntKind.i64.wrap ((i : Int) + 1 - 1) = (i : Int) := by rw [show (i : Int) + 1 - 1 = i by omega]; exact IntWalk.i64_in _ (by omega)
          have y3 : (0 : Int) ≤ (i : Int) := by omega
          have y4 : (i : Int) < (k : Int) := by omega
          have y6 : IntKind.i64.wrap (i : Int) = (i : Int) := IntWalk.i64_in _ (by omega)
          clear hg hsp hot hli hset hkl hx hx'
          go_wp2_with fail
          clear q0 q1 q2
          simp only [← hC]
          generalize World.alloc _ _ = w2 at HW1 ⊢
          clear hC hR hbz
          go_region_held3 (fun w' => WS C W H ao n cap Z bo m bcap B t p s w w' ∧ w'.cell? ⟨X, 0, none⟩ = some (.int .i64 W) ∧ w'.cell? ⟨X, 1, none⟩ = some (.int .i64 H) ∧ w'.cell? ⟨X, 2, none⟩ = some (.slice ao n cap) ∧ w'.cell? ⟨X, 3, none⟩ = some (.slice bo m bcap) ∧ w'.cell? ⟨lb, off + i * 3, none⟩ = some (.int .i64 t') ∧ w'.cell? ⟨lb, off + i * 3 + 1, none⟩ = some (.int .i64 p') ∧ w'.cell? ⟨lb, off + i * 3 + 2, none⟩ = some (.int .i64 s') ∧ w'.cell? ⟨C, 0, none⟩ = some (.int .i64 t) ∧ w'.cell? ⟨C, 1, none⟩ = some (.int .i64 p) ∧ w'.cell? ⟨C, 2, none⟩ = some (.int .i64 s))
            (first
              | exact ws_keep HX.out HS.out HI.out (And.intro HW1.out trivial) ((Below.refl _ _).drew)
              | exact ws_keep HX.out HS.out HI.out (by assumption) hb
              | assumption)
            (first
              | (go_at_call 17; (refine (follow_any W H ao n cap Z _ HOK.out.1.sized HOK.out.1.sets (fun i hi => ⟨(HOK.out.1.fine i hi).1, (HOK.out.1.fine i hi).2.1⟩) t' p' s' HQ.out.1 HQ.out.2 HQ2.out.1 HQ2.out.2 _ (ws_tab (by assumption)) (ws_ints (by assumption))).mono ?_); rintro r w6 ⟨lst, rfl, hrow, hb⟩; obtain ⟨al, cl, rfl⟩ := row_slice hrow)
              | (go_at_call 16; (refine (contains_any _ HKL.out _ al cl t p s g HG.out _ hrow).mono ?_); rintro r w7 ⟨rfl, hb⟩))
          have HW3 : Hid (WS C W H ao n cap Z bo m bcap B t p s w _) := hid (ws_of (by assumption))
          cases g
          all_goals go_wp2_with fail
          · go_ret
            exact ⟨ret_int (HRest.out.noStep hlt (fun h => by have := HST.out.1 h; cases this)), HW3.out.rb.below⟩
          · go_roundw
            case rel =>
              refine ⟨i + 2, by omega, by go_num, hid HW3.out.rb, hid (fun q hq => ?_)⟩
              by_cases hqi : q < i + 1
              · exact hD.out q hqi
              · obtain rfl : q = i + 1 := by omega
                exact HST.out.2 rfl
            case measure => simp [intOf]; omega
      · obtain rfl : k = j := by omega
        have HMS := hid (MS.start S wr)
        have HR1 := hid (hR.out.stays (Joins.below_alloc1 wr (.map #[] 0)))
        obtain ⟨M, hM⟩ : ∃ M, M = wr.heap.size := ⟨_, rfl⟩
        rw [← hM] at HMS
        go_wp2_with fail
        simp only [← hM]
        have HM : Hid (w.heap.size + 1 ≤ M) := hid (by rw [hM]; exact hR.out.size)
        clear hM hR
        generalize World.alloc _ _ = w2 at HMS HR1 ⊢
        go_loopw [42] (fun iv wr => ∃ j : Nat, j ≤ k ∧ iv = .int .i64 j ∧ Hid (RB W H ao n cap Z bo m bcap B w wr) ∧ Hid (MS M j S wr) ∧ Hid (∀ i, i < j → Fresh S i)) (fun iv _ => k - (intOf iv).toNat)
        case atStart => exact ⟨0, Nat.zero_le _, rfl, HR1, HMS, hid (fun i hi => by omega)⟩
        case round =>
          obtain ⟨j, hj, rfl, hR, hM, hF⟩ := hrel
          clear HR1 HMS
          by_cases hlt : j < k
          · obtain ⟨lb, off, rfl, hbz, q0, q1, q2⟩ := (HS.out.stays hR.out.below) j hlt
            obtain ⟨⟨t, p, s⟩, hx⟩ : ∃ x, S j = x := ⟨_, rfl⟩
            rw [hx] at q0 q1 q2
            simp only at q0 q1 q2
            have HXX := hid hx
            have hsp := HOK.out.2 j hlt
            rw [hx] at hsp
            have hli := (lie_in hsp.2).1
            have HQ : Hid ((0 ≤ t ∧ t ≤ 100000) ∧ (0 ≤ p ∧ p ≤ 5)) := hid ⟨⟨hli.1, by have := HN2.out; omega⟩, hli.2.2⟩
            have HMM := hid (hM.out.stays (Joins.below_alloc1 wr (.cells #[.int .i64 t, .int .i64 p, .int .i64 0] 32)))
            have HRR := hid (hR.out.stays (Joins.below_alloc1 wr (.cells #[.int .i64 t, .int .i64 p, .int .i64 0] 32)))
            obtain ⟨b, hrun, hb⟩ := HMM.out.look HQ.out.1 HQ.out.2
            have hfr : b = true ↔ ¬ Fresh S j := by rw [hb]; unfold Fresh; rw [hx]; exact Classical.not_not.symm
            clear hx hsp hli hb
            cases b
            · have HFJ : Hid (Fresh S j) := hid (Classical.byContradiction fun h => by have := hfr.2 h; cases this)
              obtain ⟨D, hown, hP⟩ := HMM.out
              obtain ⟨l, hl⟩ := key_ex t p HQ.out.1 HQ.out.2
              have HP := hid hP
              have HL := hid hl
              have HO := hid hown
              have HRS := hid hR.out.size
              clear hfr hP
              go_wp2_with (at_mapUpdate; refine wpList_mapUpdate_own _ rfl _ _ _ 44 rfl 32 4 keyed31 Tryd.underlying44 (plainElem (H := Unit) Tryd.prog 4) M j D rfl HO.out (by unfold maxLen; omega) _ _ l rfl rfl HL.out _ [] (plainElem_bool Tryd.underlying4 true) ?_; intro w5 hown5 hgrow5)
              go_roundw
              case rel =>
                refine ⟨j + 1, by omega, by go_num, hid (hR.out.far HT.out HI0.out HB.out (((Below.refl _ wr).alloc (by have := HRS.out; omega) _).grown hgrow5 (by have := HRS.out; simp; omega) (fun k hk => by cases hk; exact HM.out))), hid ⟨_, hown5, HP.out.put HO.out.isMap (by rw [HXX.out]; exact HL.out)⟩, hid (fun q hq => ?_)⟩
                by_cases hqj : q < j
                · exact hF.out q hqj
                · obtain rfl : q = j := by omega
                  exact HFJ.out
              case measure => simp [intOf]; omega
            · have HFJ : Hid (¬ Fresh S j) := hid (hfr.1 rfl)
              clear hfr
              go_wp2_with fail
              go_ret
              exact ⟨ret_int (HRest.out.noFresh hD.out hlt HFJ.out), HRR.out.below⟩
          · obtain rfl : k = j := by omega
            go_wp2_with fail
            go_ret
            exact ⟨ret_int (HRest.out.done hD.out hF.out), hR.out.below⟩
end Go.Proofs.YtlpmahdplilbiabDoor
