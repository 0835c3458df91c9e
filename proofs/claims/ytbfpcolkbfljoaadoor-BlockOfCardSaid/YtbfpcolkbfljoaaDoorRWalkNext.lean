/-
  The walks of Next, of the program and of the reference, and of what tells lists of spots alike.
-/
import Derived.Test.YtbfpcolkbfljoaaDoorRWalkSpots
namespace Go.Proofs.YtbfpcolkbfljoaaDoor
open Go.RowKit

/-- A list of spots and an error. -/
def NextOut (L : List (Int × Int × Int)) (e : Int) (w : World) (r : Ending) (w' : World) : Prop :=
  ∃ lst, r = .returned (.tuple #[lst, .int .i64 e]) ∧ w'.ownsRow w.heap.size 50 3 lst L.length (encS L) ∧ Below w.heap.size w w'
/-- What Next gives. -/
def NextIs (W H : Int) (n m : Nat) (Z : Nat → Int) (B : Nat → Bool) (t p s : Int) (L : List (Int × Int × Int)) (e : Int) : Prop :=
  (e ≠ 0 ∧ L = [] ∧ WErrs W H n m Z B 1 (fun _ => (t, p, s)) e) ∨ (e = 0 ∧ L = nxt W H Z t s ∧ Right W H n m Z B ∧ IsSpot n Z t p s)
theorem NextIs.ex (W H : Int) (n m : Nat) (Z : Nat → Int) (B : Nat → Bool) (t p s : Int) : ∃ L e, NextIs W H n m Z B t p s L e := by
  obtain ⟨e, he⟩ := WErrs.ex W H n m Z B 1 (fun _ => (t, p, s))
  by_cases h0 : e = 0
  · subst h0
    rcases he with ⟨h, _⟩ | ⟨hR, ⟨_, h⟩ | ⟨h, _⟩⟩
    · cases h
    · exact ⟨_, 0, .inr ⟨rfl, rfl, hR, h 0 (by omega)⟩⟩
    · exact absurd rfl h
  · exact ⟨_, e, .inl ⟨h0, rfl, he⟩⟩
theorem NextIs.len {W H : Int} {n m : Nat} {Z : Nat → Int} {B : Nat → Bool} {t p s : Int} {L : List (Int × Int × Int)} {e : Int} (h : NextIs W H n m Z B t p s L e) : L.length ≤ 6 := by
  rcases h with ⟨_, rfl, _⟩ | ⟨_, rfl, _⟩
  · simp
  · exact nxt_len _ _ _ _ _
theorem one_err {W H : Int} {n m : Nat} {Z : Nat → Int} {B : Nat → Bool} {t p s e : Int} (h : WErrs W H n m Z B 1 (fun _ => (t, p, s)) e) (h0 : e ≠ 0) : (e = 1 ∧ ¬ Right W H n m Z B) ∨ (Right W H n m Z B ∧ SErr n Z t p s e) := by
  rcases h with h | ⟨hR, ⟨h, _⟩ | ⟨_, i, _, h, _⟩⟩
  · exact .inl h
  · exact absurd h h0
  · exact .inr ⟨hR, h⟩
theorem one_ok {W H : Int} {n m : Nat} {Z : Nat → Int} {B : Nat → Bool} {t p s : Int} (hR : Right W H n m Z B) (h : IsSpot n Z t p s) : WErrs W H n m Z B 1 (fun _ => (t, p, s)) 0 :=
  .inr ⟨hR, .inl ⟨rfl, fun _ _ => h⟩⟩

/-- The two boxes of Next, behind whatever calls. -/
structure NB (A : Nat) (W H : Int) (ao : Option Addr) (n cap : Nat) (Z : Nat → Int) (bo : Option Addr) (m bcap : Nat) (B : Nat → Bool) (t p s : Int) (w wr : World) : Prop where
  bx : Bx2 A 25 50 #[.int .i64 W, .int .i64 H, .slice ao n cap, .slice bo m bcap] #[.int .i64 t, .int .i64 p, .int .i64 s] w wr
  ints : Ints wr ao n Z
  bools : Bools wr bo m B
  tab : Tab wr
section
variable {A : Nat} {W H : Int} {ao bo : Option Addr} {n cap m bcap : Nat} {Z : Nat → Int} {B : Nat → Bool} {t p s : Int} {w wr w' : World}
theorem NB.stays (h : NB A W H ao n cap Z bo m bcap B t p s w wr) (k : Below wr.heap.size wr w') : NB A W H ao n cap Z bo m bcap B t p s w w' := ⟨h.bx.stays k, h.ints.stays k, h.bools.stays k, h.tab.stays k⟩
theorem nb_start (hT : Tab w) (hI : Ints w ao n Z) (hB : Bools w bo m B) :
    NB w.heap.size W H ao n cap Z bo m bcap B t p s w ((w.alloc (.cells #[.int .i64 W, .int .i64 H, .slice ao n cap, .slice bo m bcap] 25)).alloc (.cells #[.int .i64 t, .int .i64 p, .int .i64 s] 50)) :=
  have h := bx2_start w 25 50 #[.int .i64 W, .int .i64 H, .slice ao n cap, .slice bo m bcap] #[.int .i64 t, .int .i64 p, .int .i64 s]
  ⟨h, hI.stays h.below, hB.stays h.below, hT.stays h.below⟩
theorem NB.cells (h : NB A W H ao n cap Z bo m bcap B t p s w wr) : (wr.cell? ⟨A, 0, none⟩ = some (.int .i64 W) ∧ wr.cell? ⟨A, 1, none⟩ = some (.int .i64 H) ∧ wr.cell? ⟨A, 2, none⟩ = some (.slice ao n cap) ∧ wr.cell? ⟨A, 3, none⟩ = some (.slice bo m bcap)) ∧
    wr.cell? ⟨A + 1, 0, none⟩ = some (.int .i64 t) ∧ wr.cell? ⟨A + 1, 1, none⟩ = some (.int .i64 p) ∧ wr.cell? ⟨A + 1, 2, none⟩ = some (.int .i64 s) :=
  ⟨⟨cell_of_row wr A 0 _ _ _ h.bx.hb, cell_of_row wr A 1 _ _ _ h.bx.hb, cell_of_row wr A 2 _ _ _ h.bx.hb, cell_of_row wr A 3 _ _ _ h.bx.hb⟩, cell_of_row wr (A + 1) 0 _ _ _ h.bx.hr, cell_of_row wr (A + 1) 1 _ _ _ h.bx.hr, cell_of_row wr (A + 1) 2 _ _ _ h.bx.hr⟩
end

theorem spots_one (w : World) (t p s : Int) : SpotsAt (w.alloc (.cells #[.int .i64 t, .int .i64 p, .int .i64 s] 50)) (some ⟨w.heap.size, 0, none⟩) 1 (fun _ => (t, p, s)) := fun j hj => by
  obtain rfl : j = 0 := by omega
  exact ⟨w.heap.size, 0, rfl, by simp, World.cell?_alloc_at _ _ _ _ rfl, World.cell?_alloc_at _ _ _ _ rfl, World.cell?_alloc_at _ _ _ _ rfl⟩
set_option maxHeartbeats 1600000 in
theorem next_to (W H : Int) (ao : Option Addr) (n cap : Nat) (Z : Nat → Int) (bo : Option Addr) (m bcap : Nat) (B : Nat → Bool) (hn : n ≤ 9223372036854775807) (hm : m ≤ 9223372036854775807) (t p s : Int) (L : List (Int × Int × Int)) (e : Int) (h : NextIs W H n m Z B t p s L e) (w : World) (hT : Tab w) (hI : Ints w ao n Z) (hB : Bools w bo m B) :
    Calls Tryd.prog 73 #[rv W H (.slice ao n cap) (.slice bo m bcap), sv t p s] w (NextOut L e w) := by
  have hst := nb_start (W := W) (H := H) (cap := cap) (bcap := bcap) (t := t) (p := p) (s := s) hT hI hB
  have HST := hid hst
  obtain ⟨A, hA⟩ : ∃ A, A = w.heap.size := ⟨_, rfl⟩
  have HA := hid hA
  have H1 := hid (hst.stays (Joins.below_alloc1 _ (.cells #[.int .i64 t, .int .i64 p, .int .i64 s] 50)))
  have HSP : Hid (SpotsAt (((w.alloc (.cells #[.int .i64 W, .int .i64 H, .slice ao n cap, .slice bo m bcap] 25)).alloc (.cells #[.int .i64 t, .int .i64 p, .int .i64 s] 50)).alloc (.cells #[.int .i64 t, .int .i64 p, .int .i64 s] 50)) (some ⟨w.heap.size + 2, 0, none⟩) 1 (fun _ => (t, p, s))) := hid (by
    have h := spots_one ((w.alloc (.cells #[.int .i64 W, .int .i64 H, .slice ao n cap, .slice bo m bcap] 25)).alloc (.cells #[.int .i64 t, .int .i64 p, .int .i64 s] 50)) t p s
    rwa [show ((w.alloc (.cells #[.int .i64 W, .int .i64 H, .slice ao n cap, .slice bo m bcap] 25)).alloc (.cells #[.int .i64 t, .int .i64 p, .int .i64 s] 50)).heap.size = w.heap.size + 2 by simp] at h)
  clear hst hT hI hB
  rcases h with ⟨he, rfl, h⟩ | ⟨rfl, rfl, hR, hsp⟩
  · have HE := hid h
    have g1 : (e != 0) = true := by simpa using he
    have g2 : (e == 0) = false := by simpa using he
    clear he h
    go_enter Tryd.func73, Tryd.ntmps73
    go_wp2_with fail
    refine (spots_to W H ao n cap Z bo m bcap B hn hm _ 1 1 (by decide) _ e HE.out _ H1.out.tab H1.out.ints H1.out.bools HSP.out).mono ?_
    rintro r w2 ⟨rfl, hb2⟩
    have H2 := hid (H1.out.stays hb2)
    clear hb2
    go_wp2_with fail
    go_ret2
    exact ⟨_, rfl, World.ownsRow_nil _ _ _ _, by have := H2.out.bx.below; exact this⟩
  · have HE := hid (one_ok hR hsp)
    have HR := hid hR
    have HP := hid hsp
    clear hR hsp
    go_enter Tryd.func73, Tryd.ntmps73
    go_wp2_with fail
    refine (spots_to W H ao n cap Z bo m bcap B hn hm _ 1 1 (by decide) _ 0 HE.out _ H1.out.tab H1.out.ints H1.out.bools HSP.out).mono ?_
    rintro r w2 ⟨rfl, hb2⟩
    have H2 := hid (H1.out.stays hb2)
    simp only [← hA] at H2 ⊢
    obtain ⟨⟨x0, x1, x2, x3⟩, y0, y1, y2⟩ := H2.out.cells
    have hot := oth_yes HP.out.1
    have hlt := (lie_in HP.out.2).1
    have hset := HR.out.sets
    have HQ := hid (And.intro hlt.1 (show t < W * H by omega))
    have HQ2 := hid (And.intro hot.2.1 hot.2.2.1)
    clear hb2 hA hot hlt hset HSP H1 HST
    go_wp2_with fail
    refine (follow_any W H ao n cap Z _ HR.out.sized HR.out.sets (fun i hi => ⟨(HR.out.fine i hi).1, (HR.out.fine i hi).2.1⟩) t p s HQ.out.1 HQ.out.2 HQ2.out.1 HQ2.out.2 _ H2.out.tab H2.out.ints).mono ?_
    rintro r w3 ⟨lst, rfl, hrow, hb3⟩
    have H3 := hid (H2.out.stays hb3)
    have HW := hid (row_mono (base' := A) hrow (by have := heap_lt H2.out.bx.hr; omega))
    clear hb3 hrow x0 x1 x2 x3 y0 y1 y2
    go_wp2_with fail
    go_ret2
    exact ⟨_, rfl, by rw [← HA.out]; exact HW.out, by rw [← HA.out]; exact H3.out.bx.below⟩

set_option maxHeartbeats 1600000 in
theorem refnext_to (W H : Int) (ao : Option Addr) (n cap : Nat) (Z : Nat → Int) (bo : Option Addr) (m bcap : Nat) (B : Nat → Bool) (hn : n ≤ 9223372036854775807) (hm : m ≤ 9223372036854775807) (t p s : Int) (L : List (Int × Int × Int)) (e : Int) (h : NextIs W H n m Z B t p s L e) (w : World) (hT : Tab w) (hI : Ints w ao n Z) (hB : Bools w bo m B) :
    Calls Tryd.prog 71 #[rv W H (.slice ao n cap) (.slice bo m bcap), sv t p s] w (NextOut L e w) := by
  have hst := nb_start (W := W) (H := H) (cap := cap) (bcap := bcap) (t := t) (p := p) (s := s) hT hI hB
  have H1 := hid hst
  obtain ⟨A, hA⟩ : ∃ A, A = w.heap.size := ⟨_, rfl⟩
  have HA := hid hA
  clear hst hT hI hB
  have hcase : (e ≠ 0 ∧ L = [] ∧ e = 1 ∧ ¬ Right W H n m Z B) ∨ (e ≠ 0 ∧ L = [] ∧ Right W H n m Z B ∧ SErr n Z t p s e) ∨ (e = 0 ∧ L = nxt W H Z t s ∧ Right W H n m Z B ∧ IsSpot n Z t p s) := by
    rcases h with ⟨he, hL, h⟩ | h
    · rcases one_err h he with h | h
      · exact .inl ⟨he, hL, h⟩
      · exact .inr (.inl ⟨he, hL, h⟩)
    · exact .inr (.inr h)
  clear h
  rcases hcase with ⟨he, rfl, rfl, hR⟩ | ⟨he, rfl, hR, hS⟩ | ⟨rfl, rfl, hR, hsp⟩
  · have HV := hid (verr_no hR)
    clear he hR
    go_enter Tryd.func71, Tryd.ntmps71
    go_wp2_with fail
    refine (refvalidate_any W H ao n cap Z bo m bcap B hn hm _ H1.out.ints H1.out.bools 1 HV.out).mono ?_
    rintro r w2 ⟨rfl, hb2⟩
    have H2 := hid (H1.out.stays hb2)
    clear hb2
    go_wp2_with fail
    go_ret2
    exact ⟨_, rfl, World.ownsRow_nil _ _ _ _, H2.out.bx.below⟩
  · have HV := hid (verr_ok hR)
    have HR := hid hR
    have HS := hid hS
    have g1 : (e != 0) = true := by simpa using he
    have g2 : (e == 0) = false := by simpa using he
    clear he hR hS
    go_enter Tryd.func71, Tryd.ntmps71
    go_wp2_with fail
    refine (refvalidate_any W H ao n cap Z bo m bcap B hn hm _ H1.out.ints H1.out.bools 0 HV.out).mono ?_
    rintro r w2 ⟨rfl, hb2⟩
    have H2 := hid (H1.out.stays hb2)
    simp only [← hA] at H2 ⊢
    obtain ⟨⟨x0, x1, x2, x3⟩, y0, y1, y2⟩ := H2.out.cells
    clear hb2 hA H1
    go_wp2_with fail
    refine (spotError_to W H ao n cap Z _ (fun i hi => ⟨(HR.out.fine i hi).1, (HR.out.fine i hi).2.1⟩) t p s e HS.out _ H2.out.ints).mono ?_
    rintro r w3 ⟨rfl, hb3⟩
    have H3 := hid (H2.out.stays hb3)
    clear hb3 x0 x1 x2 x3 y0 y1 y2
    go_wp2_with fail
    go_ret2
    exact ⟨_, rfl, World.ownsRow_nil _ _ _ _, by rw [← HA.out]; exact H3.out.bx.below⟩
  · have HV := hid (verr_ok hR)
    have HR := hid hR
    have HP := hid hsp
    have HS := hid (spot_serr hsp)
    clear hR hsp
    go_enter Tryd.func71, Tryd.ntmps71
    go_wp2_with fail
    refine (refvalidate_any W H ao n cap Z bo m bcap B hn hm _ H1.out.ints H1.out.bools 0 HV.out).mono ?_
    rintro r w2 ⟨rfl, hb2⟩
    have H2 := hid (H1.out.stays hb2)
    simp only [← hA] at H2 ⊢
    obtain ⟨⟨x0, x1, x2, x3⟩, y0, y1, y2⟩ := H2.out.cells
    clear hb2 hA H1
    go_wp2_with fail
    refine (spotError_to W H ao n cap Z _ (fun i hi => ⟨(HR.out.fine i hi).1, (HR.out.fine i hi).2.1⟩) t p s 0 HS.out _ H2.out.ints).mono ?_
    rintro r w3 ⟨rfl, hb3⟩
    have H3 := hid (H2.out.stays hb3)
    clear hb3 x0 x1 x2 x3 y0 y1 y2 H2
    obtain ⟨⟨x0, x1, x2, x3⟩, y0, y1, y2⟩ := H3.out.cells
    have hot := oth_yes HP.out.1
    have hlt := (lie_in HP.out.2).1
    have hset := HR.out.sets
    have HQ := hid (And.intro hlt.1 (show t < W * H by omega))
    have HQ2 := hid (And.intro hot.2.1 hot.2.2.1)
    clear hot hlt hset
    go_wp2_with fail
    refine (reffollow_any W H ao n cap Z _ HR.out.sized HR.out.sets (fun i hi => ⟨(HR.out.fine i hi).1, (HR.out.fine i hi).2.1⟩) t p s HQ.out.1 HQ.out.2 HQ2.out.1 HQ2.out.2 _ H3.out.tab H3.out.ints).mono ?_
    rintro r w4 ⟨lst, rfl, hrow, hb4⟩
    have H4 := hid (H3.out.stays hb4)
    have HW := hid (row_mono (base' := A) hrow (by have := heap_lt H3.out.bx.hr; omega))
    clear hb4 hrow x0 x1 x2 x3 y0 y1 y2
    go_wp2_with fail
    go_ret2
    exact ⟨_, rfl, by rw [← HA.out]; exact HW.out, by rw [← HA.out]; exact H4.out.bx.below⟩
end Go.Proofs.YtbfpcolkbfljoaaDoor
