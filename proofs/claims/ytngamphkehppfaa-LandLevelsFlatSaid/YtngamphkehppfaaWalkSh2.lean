/-
  The walk of Shift of the program where the land is right and the corner is on it.
-/
import Derived.Test.YtngamphkehppfaaWalkSh
namespace Go.Proofs.Ytngamphkehppfaa
open Go.RowKit

/-- Raising is a step of 1, lowering one of -1. -/
def Way (up : Bool) (s : Int) : Prop := (up = true ∧ s = 1) ∨ (up = false ∧ s = -1)
theorem Way.s {up : Bool} {s : Int} (h : Way up s) : s = 1 ∨ s = -1 := by rcases h with ⟨_, h⟩ | ⟨_, h⟩ <;> simp [h]

/-- What a shift of a corner of a right land hands back. -/
def ShGo (W H n : Nat) (m : Nat) (T : Nat → Int) (z : Int) (L : List Nat) (X : Nat → Int) (w : World) (r : Ending) (w' : World) : Prop :=
  Below w.heap.size w w' ∧
  ((¬ (0 ≤ z ∧ z ≤ 15) ∧ r = .returned (none4 6)) ∨
   ((0 ≤ z ∧ z ≤ 15) ∧ (∃ i ∈ L, heldB W H T m i = true) ∧ r = .returned (none4 7)) ∨
   ((0 ≤ z ∧ z ≤ 15) ∧ (∀ i ∈ L, heldB W H T m i = false) ∧ ∃ (g1 cap1 : Nat) (v : Value), r = .returned (.tuple #[lv W H (.slice (some ⟨g1, 0, none⟩) n cap1), v, .int .i64 (L.length * 250 : Nat), .int .i64 0]) ∧
      w'.ownsRow w.heap.size 53 3 v L.length (encC W X L) ∧ w'.ownsRow w.heap.size 3 1 (.slice (some ⟨g1, 0, none⟩) n cap1) n (ints n X)))

set_option maxHeartbeats 3200000 in
theorem shift_go (W H : Nat) (ao : Option Addr) (n cap : Nat) (Z : Nat → Int) (hg : Good W H n Z) (x y : Nat) (hx : x ≤ W) (hy : y ≤ H) (up : Bool) (s : Int) (hw : Way up s) (bo : Option Addr) (m cap2 : Nat) (hm : m ≤ 9223372036854775807) (T : Nat → Int)
    (w : World) (hI : Ints w ao n Z) (hT : Ints w bo m T) (z : Int) (ez : z = Z (y * (W + 1) + x) + s) (L : List Nat) (hL : L = chs W x y z s Z n) (X : Nat → Int) (hX : X = newZ W x y z s Z) :
    Calls Try.prog 34 #[lv W H (.slice ao n cap), .int .i64 x, .int .i64 y, .bool up, .slice bo m cap2] w (ShGo W H n m T z L X w) := by
  have HE := hid hg.err
  obtain ⟨hW1, hW2, hH1, hH2⟩ := hg.side
  have hlb := hg.shaped.bound
  have hst := bx2_start w #[.int .i64 W, .int .i64 H, .slice ao n cap] #[.int .i64 0, .int .i64 0, .slice none 0 0]
  have HI := hid (hI.stays hst.below)
  have HTT := hid (hT.stays hst.below)
  have HST := hid hst
  have HG := hid hg
  have HM := hid (And.intro ez (And.intro hL hX))
  clear hI hT hst hg ez hL hX
  have key : ∀ up s, Way up s → Hid (z = Z (y * (W + 1) + x) + s ∧ L = chs W x y z s Z n ∧ X = newZ W x y z s Z) → Calls Try.prog 34 #[lv W H (.slice ao n cap), .int .i64 x, .int .i64 y, .bool up, .slice bo m cap2] w (ShGo W H n m T z L X w) := by
    clear hw HM up s
    intro up s hw HM
    have HW := hid hw
    rcases hw with ⟨rfl, rfl⟩ | ⟨rfl, rfl⟩
    all_goals
      go_enter Try.func34, Try.ntmps34
      go_wp2_with fail
      refine (validate_any W H ao n cap Z (by omega) _ HI.out 0 HE.out).mono ?_
      rintro r w2 ⟨rfl, hb2⟩
      have H2 := hid (HST.out.stays hb2)
      have HI2 := hid (HI.out.stays hb2)
      have HT2 := hid (HTT.out.stays hb2)
      obtain ⟨B, hB⟩ : ∃ B, B = w.heap.size := ⟨_, rfl⟩
      have HBB := hid hB
      simp only [← hB] at H2 ⊢
      clear hB
      have d0 : w2.cell? ⟨B, 0, none⟩ = some (.int .i64 W) := cell_of_row w2 B 0 _ _ _ H2.out.hb
      have d1 : w2.cell? ⟨B, 1, none⟩ = some (.int .i64 H) := cell_of_row w2 B 1 _ _ _ H2.out.hb
      have d2 : w2.cell? ⟨B, 2, none⟩ = some (.slice ao n cap) := cell_of_row w2 B 2 _ _ _ H2.out.hb
      clear hb2
      go_wp2_with fail
      refine (open_any W H ao n cap Z HG.out bo m cap2 hm T _ HI2.out HT2.out).mono ?_
      rintro r w3 ⟨g1, g2, cap1, rfl, hr1, hr2, hne, hb3⟩
      have H3 := hid ((H2.out.stays hb3).stays (Joins.below_alloc1 w3 (.cells #[.int .i64 W, .int .i64 H, .slice (some ⟨g1, 0, none⟩) n cap1, .slice (some ⟨g2, 0, none⟩) n n] 85)))
      have hz2 : B + 1 < w2.heap.size := heap_lt H2.out.hr
      have hr1' := (row_stays hr1 (Joins.below_alloc1 w3 (.cells #[.int .i64 W, .int .i64 H, .slice (some ⟨g1, 0, none⟩) n cap1, .slice (some ⟨g2, 0, none⟩) n n] 85)))
      have hr2' := (row_stays hr2 (Joins.below_alloc1 w3 (.cells #[.int .i64 W, .int .i64 H, .slice (some ⟨g1, 0, none⟩) n cap1, .slice (some ⟨g2, 0, none⟩) n n] 85)))
      have hgz := hr1.lt g1 rfl
      have HR1 := hid hr1'
      have HR2 := hid hr2'
      have hsz := hb3.size
      clear hr1 hr2 hr1' hr2' hb3 d0 d1 d2 HI2 HT2 HI HTT HST
      go_wp2_with fail
      have hs0 : (w3.alloc (.cells #[.int .i64 W, .int .i64 H, .slice (some ⟨g1, 0, none⟩) n cap1, .slice (some ⟨g2, 0, none⟩) n n] 85)).heap[w3.heap.size]? = some (.cells #[.int .i64 W, .int .i64 H, .slice (some ⟨g1, 0, none⟩) n cap1, .slice (some ⟨g2, 0, none⟩) n n] 85 (0, 0)) := heap_alloc_new w3 _
      have hs1 : w3.heap.size < (w3.alloc (.cells #[.int .i64 W, .int .i64 H, .slice (some ⟨g1, 0, none⟩) n cap1, .slice (some ⟨g2, 0, none⟩) n n] 85)).heap.size := by simp
      obtain ⟨sv, hsv⟩ : ∃ sv, sv = w3.heap.size := ⟨_, rfl⟩
      simp only [← hsv] at hs0 hs1 hgz hsz ⊢
      clear hsv
      generalize w3.alloc (.cells #[.int .i64 W, .int .i64 H, .slice (some ⟨g1, 0, none⟩) n cap1, .slice (some ⟨g2, 0, none⟩) n n] 85) = w4 at *
      have HS0 := hid hs0
      clear hs0
      by_cases hzz : 0 ≤ z ∧ z ≤ 15
      · refine (site_go W H n cap1 Z HG.out g1 g2 n (heldB W H T m) x y hx hy _ HW.out.s w4 HR1.out HR2.out hne z HM.out.1 hzz L HM.out.2.1 X HM.out.2.2).mono ?_
        rintro r w5 (⟨hex, rfl, hb5⟩ | ⟨hall, v, rfl, hrl, hrc, hgr⟩)
        · have H5 := hid (H3.out.stays hb5)
          have HX := hid hex
          have HZ := hid hzz
          clear hex hb5 HS0 HR1 HR2 hzz
          have hr := H5.out.hr
          have r0 : w5.cell? ⟨B + 1, 0, none⟩ = some (.int .i64 0) := cell_of_row w5 (B + 1) 0 _ _ _ hr
          have r1 : w5.cell? ⟨B + 1, 1, none⟩ = some (.int .i64 0) := cell_of_row w5 (B + 1) 1 _ _ _ hr
          have r2 : w5.cell? ⟨B + 1, 2, none⟩ = some (.slice none 0 0) := cell_of_row w5 (B + 1) 2 _ _ _ hr
          have f0 : w5.frozen? ⟨B + 1, 0, none⟩ = false := frozen_of_row w5 (B + 1) 0 _ _ hr
          have f1 : w5.frozen? ⟨B + 1, 1, none⟩ = false := frozen_of_row w5 (B + 1) 1 _ _ hr
          have f2 : w5.frozen? ⟨B + 1, 2, none⟩ = false := frozen_of_row w5 (B + 1) 2 _ _ hr
          have hbz := heap_lt hr
          clear hr
          go_wp2_with fail
          have k3 := set3 H5.out.hr (.int .i64 0) (.int .i64 0) (.slice none 0 0)
          have k4 := set3_below (g := B + 1) H5.out.below (Nat.le_succ _) (.int .i64 0) (.int .i64 0) (.slice none 0 0)
          clear r0 r1 r2 f0 f1 f2
          generalize World.setCell _ _ _ = w6 at k3 k4 ⊢
          have q0 := cell_of_row w6 (B + 1) 0 _ _ _ k3
          have q1 := cell_of_row w6 (B + 1) 1 _ _ _ k3
          have q2 := cell_of_row w6 (B + 1) 2 _ _ _ k3
          simp at q0 q1 q2
          refine bodyPost_ret (v := none4 7) (by simp [results, Try.results34, go_sem, q0, q1, q2]) rfl ⟨by rw [← HBB.out]; exact k4, .inr (.inl ⟨HZ.out, HX.out, rfl⟩)⟩
        · have HALL := hid hall
          have HZ := hid hzz
          have hpos : 0 < L.length := List.length_pos_of_mem (by rw [HM.out.2.1, HM.out.1]; exact self_chg HG.out hx hy HW.out.s)
          have hLl : L.length ≤ n := by rw [HM.out.2.1]; exact chs_le _ _ _ _ _ _ _
          obtain ⟨gl, capl, rfl, hgl, hgl'⟩ := hrl.form hpos
          have HRL := hid hrl
          have HRC := hid hrc
          have hB0 := heap_lt H3.out.hr
          have hB1 := heap_lt H3.out.hb
          have H5 : Hid (Bx2 B #[.int .i64 W, .int .i64 H, .slice ao n cap] #[.int .i64 0, .int .i64 0, .slice none 0 0] w w5) :=
            hid ⟨H3.out.below.grown hgr (by omega) (fun k hk => by cases hk; omega), (hgr.block B (by omega) (by simp; omega)).trans H3.out.hb, (hgr.block (B + 1) (by omega) (by simp; omega)).trans H3.out.hr⟩
          have hs5 : Hid (w5.heap[sv]? = some (.cells #[.int .i64 W, .int .i64 H, .slice (some ⟨g1, 0, none⟩) n cap1, .slice (some ⟨g2, 0, none⟩) n n] 85 (0, 0))) := hid ((hgr.block sv hs1 (by simp; omega)).trans HS0.out)
          have hgsz := hgr.size
          clear hall hzz hrl hrc hgr HS0 HR1 HR2
          have t0 : w5.cell? ⟨sv, 0, none⟩ = some (.int .i64 W) := cell_of_row w5 sv 0 _ _ _ hs5.out
          have t1 : w5.cell? ⟨sv, 1, none⟩ = some (.int .i64 H) := cell_of_row w5 sv 1 _ _ _ hs5.out
          have t2 : w5.cell? ⟨sv, 2, none⟩ = some (.slice (some ⟨g1, 0, none⟩) n cap1) := cell_of_row w5 sv 2 _ _ _ hs5.out
          have hr := H5.out.hr
          have r0 : w5.cell? ⟨B + 1, 0, none⟩ = some (.int .i64 0) := cell_of_row w5 (B + 1) 0 _ _ _ hr
          have r1 : w5.cell? ⟨B + 1, 1, none⟩ = some (.int .i64 0) := cell_of_row w5 (B + 1) 1 _ _ _ hr
          have r2 : w5.cell? ⟨B + 1, 2, none⟩ = some (.slice none 0 0) := cell_of_row w5 (B + 1) 2 _ _ _ hr
          have f0 : w5.frozen? ⟨B + 1, 0, none⟩ = false := frozen_of_row w5 (B + 1) 0 _ _ hr
          have f1 : w5.frozen? ⟨B + 1, 1, none⟩ = false := frozen_of_row w5 (B + 1) 1 _ _ hr
          have f2 : w5.frozen? ⟨B + 1, 2, none⟩ = false := frozen_of_row w5 (B + 1) 2 _ _ hr
          have hbz := heap_lt hr
          clear hr
          go_wp2_with fail
          have n1 : ¬ sv = B + 1 := by omega
          have n2 : ¬ B + 1 = sv := by omega
          go_region_held3 (fun w' => w'.cell? ⟨sv, 0, none⟩ = some (.int .i64 W) ∧ w'.cell? ⟨sv, 1, none⟩ = some (.int .i64 H) ∧ w'.cell? ⟨sv, 2, none⟩ = some (.slice (some ⟨g1, 0, none⟩) n cap1))
            (go_keep)
            (first
              | (go_at_call 65; refine (cost_any _ _ _ (by omega) _).mono ?_; rintro e w' ⟨rfl, rfl⟩)
              | fail)
          go_wp2
          have k3 := set3 H5.out.hr (.int .i64 W) (.int .i64 H) (.slice (some ⟨g1, 0, none⟩) n cap1)
          have k4 := set3_below (g := B + 1) H5.out.below (Nat.le_succ _) (.int .i64 W) (.int .i64 H) (.slice (some ⟨g1, 0, none⟩) n cap1)
          have k5 := (set3_row (g := B + 1) (HRL.out.mono' (base' := w.heap.size) (by rw [← HBB.out]; omega)) (by simp [Value.ownBlock]; omega) (.int .i64 W) (.int .i64 H) (.slice (some ⟨g1, 0, none⟩) n cap1)).drew
          have k6 := (set3_row (g := B + 1) (HRC.out.mono' (base' := w.heap.size) (by rw [← HBB.out]; omega)) (by simp [Value.ownBlock]; omega) (.int .i64 W) (.int .i64 H) (.slice (some ⟨g1, 0, none⟩) n cap1)).drew
          have k7 := k4.drew
          clear r0 r1 r2 f0 f1 f2 t0 t1 t2 k4
          generalize World.setCell _ _ _ = w6 at k3 k5 k6 k7 ⊢
          have q0 := cell_of_row w6 (B + 1) 0 _ _ _ k3
          have q1 := cell_of_row w6 (B + 1) 1 _ _ _ k3
          have q2 := cell_of_row w6 (B + 1) 2 _ _ _ k3
          simp at q0 q1 q2
          refine bodyPost_ret (v := .tuple #[lv W H (.slice (some ⟨g1, 0, none⟩) n cap1), .slice (some ⟨gl, 0, none⟩) L.length capl, .int .i64 (L.length * 250 : Nat), .int .i64 0]) (by simp [results, Try.results34, go_sem, q0, q1, q2]) rfl ⟨by rw [← HBB.out]; exact k7, .inr (.inr ⟨HZ.out, HALL.out, g1, cap1, _, rfl, k5, k6⟩)⟩
      · refine (site_edge W H n cap1 Z HG.out g1 _ x y hx hy _ HW.out.s w4 HR1.out (by rw [← HM.out.1]; exact hzz)).mono ?_
        rintro r w5 ⟨rfl, hb5⟩
        have H5 := hid (H3.out.stays hb5)
        have HZ := hid hzz
        clear hb5 HS0 HR1 HR2 hzz
        have hr := H5.out.hr
        have r0 : w5.cell? ⟨B + 1, 0, none⟩ = some (.int .i64 0) := cell_of_row w5 (B + 1) 0 _ _ _ hr
        have r1 : w5.cell? ⟨B + 1, 1, none⟩ = some (.int .i64 0) := cell_of_row w5 (B + 1) 1 _ _ _ hr
        have r2 : w5.cell? ⟨B + 1, 2, none⟩ = some (.slice none 0 0) := cell_of_row w5 (B + 1) 2 _ _ _ hr
        have f0 : w5.frozen? ⟨B + 1, 0, none⟩ = false := frozen_of_row w5 (B + 1) 0 _ _ hr
        have f1 : w5.frozen? ⟨B + 1, 1, none⟩ = false := frozen_of_row w5 (B + 1) 1 _ _ hr
        have f2 : w5.frozen? ⟨B + 1, 2, none⟩ = false := frozen_of_row w5 (B + 1) 2 _ _ hr
        have hbz := heap_lt hr
        clear hr
        go_wp2_with fail
        have k3 := set3 H5.out.hr (.int .i64 0) (.int .i64 0) (.slice none 0 0)
        have k4 := set3_below (g := B + 1) H5.out.below (Nat.le_succ _) (.int .i64 0) (.int .i64 0) (.slice none 0 0)
        clear r0 r1 r2 f0 f1 f2
        generalize World.setCell _ _ _ = w6 at k3 k4 ⊢
        have q0 := cell_of_row w6 (B + 1) 0 _ _ _ k3
        have q1 := cell_of_row w6 (B + 1) 1 _ _ _ k3
        have q2 := cell_of_row w6 (B + 1) 2 _ _ _ k3
        simp at q0 q1 q2
        refine bodyPost_ret (v := none4 6) (by simp [results, Try.results34, go_sem, q0, q1, q2]) rfl ⟨by rw [← HBB.out]; exact k4, .inl ⟨HZ.out, rfl⟩⟩
  exact key up s hw HM

/-- A shift that is refused. -/
theorem shift_no (W H : Int) (ao : Option Addr) (n cap : Nat) (Z : Nat → Int) (hn : n ≤ 9223372036854775807) (x y : Int) (up : Bool) (s : Int) (hw : Way up s) (bo : Option Addr) (m cap2 : Nat) (hm : m ≤ 9223372036854775807) (T : Nat → Int) (w : World)
    (hI : Ints w ao n Z) (hT : Ints w bo m T) (e : Int) (hE : SErr W H n Z x y s m T e) :
    Calls Try.prog 34 #[lv W H (.slice ao n cap), .int .i64 x, .int .i64 y, .bool up, .slice bo m cap2] w fun r w' => r = .returned (none4 e) ∧ Below w.heap.size w w' := by
  rcases hE with ⟨h0, hE⟩ | ⟨rfl, hV, hr⟩ | ⟨W', H', x', y', rfl, rfl, rfl, rfl, hg, hx, hy, h⟩
  · exact shift_bad W H ao n cap Z hn x y up _ w hI e h0 hE
  · exact shift_out W H ao n cap Z hn x y up _ w hI hV hr
  · refine (shift_go W' H' ao n cap Z hg x' y' hx hy up s hw bo m cap2 hm T w hI hT _ rfl _ rfl _ rfl).mono ?_
    rintro r w' ⟨hb, h'⟩
    refine ⟨?_, hb⟩
    rcases h with ⟨rfl, hz⟩ | ⟨rfl, hz, i, hi, hF⟩
    · rcases h' with ⟨_, hr⟩ | ⟨hz', _⟩ | ⟨hz', _⟩
      · exact hr
      · exact absurd hz' hz
      · exact absurd hz' hz
    · rcases h' with ⟨hz', _⟩ | ⟨_, _, hr⟩ | ⟨_, ha, _⟩
      · exact absurd hz hz'
      · exact hr
      · rw [ha i hi] at hF; cases hF
/-- A shift that is done. -/
theorem shift_ok (W H : Nat) (ao : Option Addr) (n cap : Nat) (Z : Nat → Int) (x y : Nat) (up : Bool) (s : Int) (hw : Way up s) (bo : Option Addr) (m cap2 : Nat) (hm : m ≤ 9223372036854775807) (T : Nat → Int) (w : World)
    (hI : Ints w ao n Z) (hT : Ints w bo m T) {z : Int} {L : List Nat} {X : Nat → Int} (h : SOk W H n Z x y s m T z L X) :
    Calls Try.prog 34 #[lv W H (.slice ao n cap), .int .i64 x, .int .i64 y, .bool up, .slice bo m cap2] w fun r w' =>
      ∃ (g1 cap1 : Nat) (v : Value), r = .returned (.tuple #[lv W H (.slice (some ⟨g1, 0, none⟩) n cap1), v, .int .i64 (L.length * 250 : Nat), .int .i64 0]) ∧
        w'.ownsRow w.heap.size 53 3 v L.length (encC W X L) ∧ w'.ownsRow w.heap.size 3 1 (.slice (some ⟨g1, 0, none⟩) n cap1) n (ints n X) ∧ Below w.heap.size w w' := by
  refine (shift_go W H ao n cap Z h.good x y h.hx h.hy up s hw bo m cap2 hm T w hI hT z h.ez L h.hL X h.hX).mono ?_
  rintro r w' ⟨hb, h'⟩
  rcases h' with ⟨hz', _⟩ | ⟨_, ⟨i, hi, hF⟩, _⟩ | ⟨_, _, g1, cap1, v, h1, h2, h3⟩
  · exact absurd h.hz hz'
  · rw [h.free i hi] at hF; cases hF
  · exact ⟨g1, cap1, v, h1, h2, h3, hb⟩
end Go.Proofs.Ytngamphkehppfaa
