/-
  The walk of the reference's Level where it does not refuse ahead of all work.
-/
import Derived.Test.YtngamphkehppfaaWalkLev
import Derived.Test.YtngamphkehppfaaWalkRs2
import Derived.Deep.DeepCutAuto
namespace Go.Proofs.Ytngamphkehppfaa
open Go.RowKit

theorem news_of_ints {w : World} {b off n : Nat} {Z : Nat → Int} (h : Ints w (some ⟨b, off, none⟩) n Z) : ∀ j u, (ints n Z)[j]? = some u → w.cell? ((⟨b, off, none⟩ : Addr).add j) = some u := by
  intro j u hj
  have hjn : j < n := by have := (List.getElem?_eq_some_iff.1 hj).1; rwa [ints_length] at this
  rw [ints_get _ hjn] at hj
  obtain ⟨b', off', e, _, hc⟩ := h j hjn
  cases e
  rw [Addr.add_lit, hc]
  exact hj
theorem ints_one {n : Nat} {Z : Nat → Int} : ∀ u ∈ ints n Z, u.oneCell' = true := by
  intro u hu
  obtain ⟨x, _, rfl⟩ := List.mem_map.1 hu
  rfl
theorem grown_nil {a b : World} (h : a.grownBy b (Value.slice none 0 0).ownBlock) : Below a.heap.size a b := ⟨h.os, h.tape, h.output, h.size, fun k hk => h.block k hk (by simp [Value.ownBlock])⟩
theorem b3 {B : Nat} {x0 x1 x2 : Value} {rs : Array Value} {w wr w' : World} (h : Bx2 B #[x0, x1, x2] rs w wr) (k : Below wr.heap.size wr w') : w'.cell? ⟨B, 0, none⟩ = some x0 ∧ w'.cell? ⟨B, 1, none⟩ = some x1 ∧ w'.cell? ⟨B, 2, none⟩ = some x2 :=
  ⟨cell_of_row w' B 0 _ _ _ (h.stays k).hb, cell_of_row w' B 1 _ _ _ (h.stays k).hb, cell_of_row w' B 2 _ _ _ (h.stays k).hb⟩
/-- The memory of the reference's Level: its boxes, the land at work and its corners. -/
structure RL (B ob W H n g cp : Nat) (bx : Array Value) (Y : Nat → Int) (w wr : World) : Prop where
  b2 : Bx2 B bx #[.int .i64 0, .int .i64 0, .slice none 0 0] w wr
  ho : wr.heap[ob]? = some (.cells #[.int .i64 W, .int .i64 H, .slice (some ⟨g, 0, none⟩) n cp] 24 (0, 0))
  xs : wr.ownsRow (B + 2) 3 1 (.slice (some ⟨g, 0, none⟩) n cp) n (ints n Y)
  ne : g ≠ ob
  lt : B + 1 < ob
theorem RL.stays {B ob W H n g cp : Nat} {bx : Array Value} {Y : Nat → Int} {w wr w' : World} (h : RL B ob W H n g cp bx Y w wr) (k : Below wr.heap.size wr w') : RL B ob W H n g cp bx Y w w' :=
  ⟨h.b2.stays k, (k.block _ (heap_lt h.ho)).trans h.ho, row_stays h.xs k, h.ne, h.lt⟩
/-- Another land in its place. -/
theorem RL.put {B ob W H n g cp : Nat} {bx : Array Value} {Y : Nat → Int} {w wr : World} {x0 x1 x2 : Value} (b2 : Bx2 B bx #[.int .i64 0, .int .i64 0, .slice none 0 0] w wr) (ho : wr.heap[ob]? = some (.cells #[x0, x1, x2] 24 (0, 0)))
    (xs : wr.ownsRow (B + 2) 3 1 (.slice (some ⟨g, 0, none⟩) n cp) n (ints n Y)) (ne : g ≠ ob) (lt : B + 1 < ob) :
    RL B ob W H n g cp bx Y w (((wr.setCell ⟨ob, 0, none⟩ (.int .i64 W)).setCell ⟨ob, 1, none⟩ (.int .i64 H)).setCell ⟨ob, 2, none⟩ (.slice (some ⟨g, 0, none⟩) n cp)) := by
  have other : ∀ k, k ≠ ob → (((wr.setCell ⟨ob, 0, none⟩ (.int .i64 W)).setCell ⟨ob, 1, none⟩ (.int .i64 H)).setCell ⟨ob, 2, none⟩ (.slice (some ⟨g, 0, none⟩) n cp)).heap[k]? = wr.heap[k]? := fun k hk =>
    (Below.heap_setCell _ _ _ k hk).trans ((Below.heap_setCell _ _ _ k hk).trans (Below.heap_setCell _ _ _ k hk))
  exact ⟨⟨set3_below b2.below (by omega) _ _ _, (other B (by omega)).trans b2.hb, (other (B + 1) (by omega)).trans b2.hr⟩, set3 ho _ _ _, set3_row xs (by simp [Value.ownBlock]; exact ne) _ _ _, ne, lt⟩

/-- A step that is done, by the reference. -/
theorem refs_yes (W H : Nat) (ao : Option Addr) (n cap : Nat) (Y : Nat → Int) (fo : Option Addr) (m capf : Nat) (hm : m ≤ 9223372036854775807) (F : Nat → Int) (h : Int) (p : Nat) (hg : Good W H n Y) (hp : p < n) (hh : 0 ≤ h ∧ h ≤ 15) (hne : Y p ≠ h) (hb : stB W H n m F h p Y = false)
    (up : Bool) (hup : Way up (dirS (Y p) h)) (w : World) (hI : Ints w ao n Y) (hF : Ints w fo m F) :
    Calls Try.prog 35 #[lv W H (.slice ao n cap), .int .i64 (p % (W + 1) : Nat), .int .i64 (p / (W + 1) : Nat), .bool up, .slice fo m capf] w fun r w' =>
      ∃ (g1 cap1 : Nat) (vo : Option Addr) (vc : Nat), r = .returned (.tuple #[lv W H (.slice (some ⟨g1, 0, none⟩) n cap1), .slice vo (stL W n h p Y).length vc, .int .i64 ((stL W n h p Y).length * 250 : Nat), .int .i64 0]) ∧
        w'.ownsRow w.heap.size 3 1 (.slice (some ⟨g1, 0, none⟩) n cap1) n (ints n (stX W h p Y)) ∧ Below w.heap.size w w' := by
  refine (refshift_ok W H ao n cap Y (p % (W + 1)) (p / (W + 1)) up _ hup fo m capf hm F w hI hF (step_ok hg hp hh hne hb)).mono ?_
  rintro r w' ⟨g1, cap1, v, rfl, h1, h2, h3⟩
  obtain ⟨vo, vc, rfl⟩ := row_slice h1
  exact ⟨g1, cap1, vo, vc, rfl, h2, h3⟩
/-- A step that is refused, by the reference. -/
theorem refs_no (W H : Nat) (ao : Option Addr) (n cap : Nat) (Y : Nat → Int) (fo : Option Addr) (m capf : Nat) (hm : m ≤ 9223372036854775807) (F : Nat → Int) (h : Int) (p : Nat) (hg : Good W H n Y) (hp : p < n) (hh : 0 ≤ h ∧ h ≤ 15) (hne : Y p ≠ h) (hb : stB W H n m F h p Y = true)
    (up : Bool) (hup : Way up (dirS (Y p) h)) (w : World) (hI : Ints w ao n Y) (hF : Ints w fo m F) :
    Calls Try.prog 35 #[lv W H (.slice ao n cap), .int .i64 (p % (W + 1) : Nat), .int .i64 (p / (W + 1) : Nat), .bool up, .slice fo m capf] w fun r w' => r = .returned (none4 7) ∧ Below w.heap.size w w' := by
  have h1 := Nat.mod_lt p (show 0 < W + 1 by omega)
  have h2 := hg.row_lt hp
  have h3 := hg.shaped.bound
  refine refshift_no W H ao n cap Y (by omega) (p % (W + 1) : Nat) (p / (W + 1) : Nat) up _ hup fo m capf hm F w hI hF 7 (.inr (.inr ⟨W, H, p % (W + 1), p / (W + 1), rfl, rfl, rfl, rfl, hg, by omega, by omega, .inr ⟨rfl, ?_, ?_⟩⟩))
  · rw [at_back]; exact step_in hg hp hh hne
  · unfold stB at hb
    rw [List.any_eq_true] at hb
    obtain ⟨i, hi, hF⟩ := hb
    rw [at_back]
    exact ⟨i, hi, hF⟩
theorem RL.cells {B ob W H n g cp : Nat} {bx : Array Value} {Y : Nat → Int} {w wr w' : World} {x0 x1 x2 : Value} {x : Nat} {y : Int} (hbx : bx = #[x0, x1, x2]) (h : RL B ob W H n g cp bx Y w wr) (hx : x < n ∧ Y x = y) (k : Below wr.heap.size wr w') :
    w'.cell? ⟨B, 0, none⟩ = some x0 ∧ w'.cell? ⟨ob, 0, none⟩ = some (.int .i64 W) ∧ w'.cell? ⟨ob, 1, none⟩ = some (.int .i64 H) ∧ w'.cell? ⟨ob, 2, none⟩ = some (.slice (some ⟨g, 0, none⟩) n cp) ∧ w'.cell? ⟨g, x, none⟩ = some (.int .i64 y) := by
  subst hbx
  have j := h.stays k
  have c := (j.xs.cellAt x (by omega)).trans (ints_get Y hx.1)
  rw [hx.2] at c
  exact ⟨cell_of_row w' B 0 _ _ _ j.b2.hb, cell_of_row w' ob 0 _ _ _ j.ho, cell_of_row w' ob 1 _ _ _ j.ho, cell_of_row w' ob 2 _ _ _ j.ho, c⟩

set_option maxRecDepth 20000 in
set_option maxHeartbeats 12800000 in
theorem reflevel_go (W H : Nat) (ao : Option Addr) (n cap : Nat) (Z : Nat → Int) (hg : Good W H n Z) (tao : Option Addr) (k capt : Nat) (hk : k ≤ 1000) (T : Nat → Int) (h : Int) (hh : 0 ≤ h ∧ h ≤ 15) (hf : ∀ i, i < k → tileB W H (T i) = true)
    (fo : Option Addr) (m capf : Nat) (hm : m ≤ 9223372036854775807) (F : Nat → Int) (w : World) (hI : Ints w ao n Z) (hT : Ints w tao k T) (hF : Ints w fo m F) :
    Calls Try.prog 38 #[lv W H (.slice ao n cap), .slice tao k capt, .int .i64 h, .slice fo m capf] w (LvGo W H n m F h T Z k w) := by
  have hst := bx2_start w #[.int .i64 W, .int .i64 H, .slice ao n cap] #[.int .i64 0, .int .i64 0, .slice none 0 0]
  have HI := hid (hI.stays hst.below)
  have HIW := hid hI
  have HST := hid hst
  have HTT := hid hT
  have HFF := hid hF
  have HG := hid hg
  have HE := hid hg.err
  obtain ⟨hW1, hW2, hH1, hH2⟩ := hg.side
  have hlb := hg.shaped.bound
  obtain ⟨b, off, rfl, hbw, hcx⟩ := hI.one (by omega)
  clear hcx
  obtain ⟨i0, hi0, hi1, hi2, hi3⟩ := info_parts info3
  have HIN := hid (And.intro hi0 (And.intro hi1 (And.intro hi2 hi3)))
  clear hi0 hi1 hi2 hi3
  have HF := hid hf
  have HLI := hid (fun j C Y => lev_inv (m := m) (F := F) (P := plc W T) hg hh j C Y)
  have HBR := hid hh
  have hms := mul_small hW2 hH2
  have HTL : Hid (∀ i, i < k → ∃ t : Nat, T i = (t : Int) ∧ t < W * H) := hid (fun i hi => by
    have h1 := hf i hi
    unfold tileB at h1
    simp at h1
    exact ⟨(T i).toNat, by omega, by omega⟩)
  have HPN : Hid (∀ i, i < 4 * k → plc W T i < n) := hid (fun i hi => by
    obtain ⟨t, ht, htl⟩ := HTL.out (i / 4) (by omega)
    unfold plc
    rw [ht, Int.toNat_natCast]
    exact pl_lt HG.out htl _)
  obtain ⟨h1, h2⟩ := hh
  have hk2 : ¬ (1000 : Int) < (k : Int) := by omega
  have hb1 : decide (h < 0) = false := by simp; omega
  have hb2 : decide (15 < h) = false := by simp; omega
  have hb3 : decide ((1000 : Int) < (k : Int)) = false := by simp; omega
  clear hI hg hst hT hf hF
  go_enter Try.func38, Try.ntmps38
  go_wp2_with fail
  refine (refvalidate_any W H _ n cap Z (by omega) _ HI.out 0 HE.out).mono ?_
  rintro r w2 ⟨rfl, hb2⟩
  have HS0 := hid (HST.out.stays hb2)
  obtain ⟨B, hB⟩ : ∃ B, B = w.heap.size := ⟨_, rfl⟩
  have HBB := hid hB
  simp only [← hB] at HS0 ⊢
  clear hB hb2 HI HST
  go_wp2_with fail
  go_loopw [44] (fun iv wr => ∃ j : Nat, j ≤ k ∧ iv = .int .i64 j ∧ Hid (Bx2 B #[.int .i64 W, .int .i64 H, .slice (some ⟨b, off, none⟩) n cap] #[.int .i64 0, .int .i64 0, .slice none 0 0] w wr)) (fun iv _ => k - (intOf iv).toNat)
  case atStart => exact ⟨0, Nat.zero_le _, rfl, HS0⟩
  case round =>
    obtain ⟨j, hj, rfl, H2⟩ := hrel
    clear HS0
    by_cases hlt : j < k
    · obtain ⟨bt, offt, rfl, hbz0, hc⟩ := HTT.out j hlt
      have c := (H2.out.below.cell (p := ⟨bt, offt + j, none⟩) (by rw [HBB.out]; exact hbz0)).trans hc
      obtain ⟨t, ht⟩ : ∃ t, T j = t := ⟨_, rfl⟩
      have hti := HF.out j hlt
      rw [ht] at c hti
      have HTI := hid hti
      have d0 : wr.cell? ⟨B, 0, none⟩ = some (.int .i64 W) := cell_of_row wr B 0 _ _ _ H2.out.hb
      have d1 : wr.cell? ⟨B, 1, none⟩ = some (.int .i64 H) := cell_of_row wr B 1 _ _ _ H2.out.hb
      have d2 : wr.cell? ⟨B, 2, none⟩ = some (.slice (some ⟨b, off, none⟩) n cap) := cell_of_row wr B 2 _ _ _ H2.out.hb
      clear ht hc hti
      go_wp2_with fail
      refine (is_any W H hW2 hH2 _ t _).mono ?_
      rw [HTI.out]
      rintro e w3 ⟨rfl, hw3⟩
      have HS3 := hid (H2.out.stays (Joins.below_alloc1 wr (.cells #[.int .i64 W, .int .i64 H, .slice (some ⟨b, off, none⟩) n cap] 24)))
      rw [hw3] at HS3
      clear hw3 d0 d1 d2 c
      go_wp2_with fail
      go_roundw
      case rel => exact ⟨j + 1, by omega, by go_num, HS3⟩
      case measure => simp [intOf]; omega
    · obtain rfl : k = j := by omega
      have d0 : wr.cell? ⟨B, 0, none⟩ = some (.int .i64 W) := cell_of_row wr B 0 _ _ _ H2.out.hb
      have d1 : wr.cell? ⟨B, 1, none⟩ = some (.int .i64 H) := cell_of_row wr B 1 _ _ _ H2.out.hb
      have d2 : wr.cell? ⟨B, 2, none⟩ = some (.slice (some ⟨b, off, none⟩) n cap) := cell_of_row wr B 2 _ _ _ H2.out.hb
      have HA0 := hid (HBB.out ▸ H2.out.below : Below w.heap.size w wr)
      have HID := hid ((HIW.out.stays HA0.out).stays (((Below.refl _ _).drew) : Below wr.heap.size wr wr.drew))
      have HIE := hid ((HID.out).stays (Joins.below_alloc1 wr.drew (.cells #[.int .i64 0, .int .i64 0, .slice none 0 0] 24)))
      have hzB := heap_lt H2.out.hr
      go_upto_region 12 with fail
      go_cut [14] (fun s14 wx => ∃ ob g cp : Nat, s14 = .pointer (some ⟨ob, 0, none⟩) ∧ Hid (RL B ob W H n g cp #[.int .i64 W, .int .i64 H, .slice (some ⟨b, off, none⟩) n cap] Z w wx))
      case first =>
        go_region_held3 (fun w' => w'.cell? ⟨B, 0, none⟩ = some (.int .i64 W) ∧ w'.cell? ⟨B, 1, none⟩ = some (.int .i64 H) ∧ w'.cell? ⟨B, 2, none⟩ = some (.slice (some ⟨b, off, none⟩) n cap))
          (first
            | exact b3 H2.out ((Below.refl _ _).drew)
            | exact b3 H2.out (((Below.refl _ _).drew).trans (grown_nil hgrow))
            | exact b3 H2.out ((((Below.refl _ _).drew).trans (grown_nil hgrow)).alloc (grown_nil hgrow).size _)
            | exact b3 H2.out (((Below.refl _ _).drew).alloc (Nat.le_refl _) _)
            | exact b3 H2.out ((((Below.refl _ _).drew).alloc (Nat.le_refl _) _).trans ((grown_nil hgrow).mono (by simp)))
            | exact b3 H2.out ((((((Below.refl _ _).drew).alloc (Nat.le_refl _) _).trans ((grown_nil hgrow).mono (by simp))).setCell (Nat.le_refl _) _).setCell (Nat.le_refl _) _ |>.setCell (Nat.le_refl _) _)
            | go_keep)
          (first
            | (refine step_append_lies _ rfl _ _ 22 rfl (B + 2) 3 i0 (.int .i64 0) 1 8 Try.underlying22 HIN.out.1 HIN.out.2.1 HIN.out.2.2.1 HIN.out.2.2.2 rfl (by decide) (.slice none 0 0) 0 [] rfl (World.ownsRow_nil _ _ _ _) ⟨b, off, none⟩ n cap (ints n Z) rfl (by simp [ints_length]) (news_of_ints HID.out) ints_one (by omega) (by unfold maxLen; omega) (by omega) (by simp; omega) _ rfl ?_; intro g cp w6 hown hgrow hat hglt)
            | (refine step_append_lies _ rfl _ _ 22 rfl (B + 2) 3 i0 (.int .i64 0) 1 8 Try.underlying22 HIN.out.1 HIN.out.2.1 HIN.out.2.2.1 HIN.out.2.2.2 rfl (by decide) (.slice none 0 0) 0 [] rfl (World.ownsRow_nil _ _ _ _) ⟨b, off, none⟩ n cap (ints n Z) rfl (by simp [ints_length]) (news_of_ints HIE.out) ints_one (by omega) (by unfold maxLen; omega) (by omega) (by simp; omega) _ rfl ?_; intro g cp w6 hown hgrow hat hglt; have ho : w6.heap[wr.heap.size]? = some (.cells #[.int .i64 0, .int .i64 0, .slice none 0 0] 24 (0, 0)) := ((grown_nil hgrow).block wr.heap.size (by simp)).trans (heap_alloc_new wr.drew _); have o0 : w6.cell? ⟨wr.heap.size, 0, none⟩ = some (.int .i64 0) := cell_of_row w6 _ 0 _ _ _ ho; have o1 : w6.cell? ⟨wr.heap.size, 1, none⟩ = some (.int .i64 0) := cell_of_row w6 _ 1 _ _ _ ho; have o2 : w6.cell? ⟨wr.heap.size, 2, none⟩ = some (.slice none 0 0) := cell_of_row w6 _ 2 _ _ _ ho; have p0 : w6.frozen? ⟨wr.heap.size, 0, none⟩ = false := frozen_of_row w6 _ 0 _ _ ho; have p1 : w6.frozen? ⟨wr.heap.size, 1, none⟩ = false := frozen_of_row w6 _ 1 _ _ ho; have p2 : w6.frozen? ⟨wr.heap.size, 2, none⟩ = false := frozen_of_row w6 _ 2 _ _ ho; have hoz := heap_lt ho)
            | fail)
        · go_wp2_with fail
          have hb6 : Below wr.heap.size wr w6 := ((Below.refl _ _).drew).trans (grown_nil hgrow)
          have hz6 := hb6.size
          simp only [Nat.zero_add, List.nil_append] at hown
          have ka := Joins.below_alloc1 w6 (.cells #[.int .i64 W, .int .i64 H, .slice (some ⟨g, 0, none⟩) n cp] 24)
          have HV : Hid (RL B w6.heap.size W H n g cp #[.int .i64 W, .int .i64 H, .slice (some ⟨b, off, none⟩) n cap] Z w (w6.alloc (.cells #[.int .i64 W, .int .i64 H, .slice (some ⟨g, 0, none⟩) n cp] 24))) :=
            hid ⟨(H2.out.stays hb6).stays ka, heap_alloc_new w6 _, row_stays hown ka, by omega, by omega⟩
          go_meet
          exact ⟨w6.heap.size, g, cp, rfl, HV⟩
        · go_wp2_with fail
          have hb6 : Below wr.heap.size wr w6 := (((Below.refl _ _).drew).alloc (Nat.le_refl _) _).trans ((grown_nil hgrow).mono (by simp))
          simp only [Nat.zero_add, List.nil_append] at hown
          have hgn : g ≠ wr.heap.size := by
            rcases hat with e | e
            · simp [Value.ownBlock] at e
            · simp at e; omega
          have HV : Hid (RL B wr.heap.size W H n g cp #[.int .i64 W, .int .i64 H, .slice (some ⟨b, off, none⟩) n cap] Z w (((w6.setCell ⟨wr.heap.size, 0, none⟩ (.int .i64 W)).setCell ⟨wr.heap.size, 1, none⟩ (.int .i64 H)).setCell ⟨wr.heap.size, 2, none⟩ (.slice (some ⟨g, 0, none⟩) n cp))) :=
            hid (RL.put (H2.out.stays hb6) ho hown hgn hzB)
          go_meet
          exact ⟨wr.heap.size, g, cp, rfl, HV⟩
      case rest =>
        obtain ⟨ob, g, cp, rfl, HV⟩ := hcut
        clear H2 HID HIE HA0 d0 d1 d2 hzB
        go_wp2_with fail
        go_loopw [64, 15] (fun iv cv wr => ∃ (i C : Nat) (Y : Nat → Int) (g cp : Nat), i ≤ k ∧ iv = .int .i64 i ∧ cv = .int .i64 (C * 250 : Nat) ∧ Hid (lev W H n m F h (plc W T) Z (4 * i) = some (C, Y)) ∧ Hid (RL B ob W H n g cp #[.int .i64 W, .int .i64 H, .slice (some ⟨b, off, none⟩) n cap] Y w wr)) (fun iv _ _ => k - (intOf iv).toNat)
        case atStart => exact ⟨0, 0, Z, g, cp, Nat.zero_le _, rfl, rfl, hid rfl, HV⟩
        case round =>
          obtain ⟨i, C, Y, g, cp, hi, rfl, rfl, hL, hV⟩ := hrel
          clear HV
          by_cases hlt : i < k
          · obtain ⟨bt, offt, rfl, hbz0, hc⟩ := HTT.out i hlt
            have c := (hV.out.b2.below.cell (p := ⟨bt, offt + i, none⟩) (by rw [HBB.out]; exact hbz0)).trans hc
            obtain ⟨t, ht, htl⟩ := HTL.out i hlt
            rw [ht] at c
            have HTI := hid ht
            have HTB := hid htl
            have d0 := cell_of_row _ B 0 _ _ _ hV.out.b2.hb
            have d1 := cell_of_row _ B 1 _ _ _ hV.out.b2.hb
            have d2 := cell_of_row _ B 2 _ _ _ hV.out.b2.hb
            simp only [List.getElem?_toArray, List.getElem?_cons_zero, List.getElem?_cons_succ] at d0 d1 d2
            have ht2 : t ≤ 1024 := by omega
            clear ht htl hc
            go_wp2_with fail
            refine (refplaces_any W H (by omega) hW2 hH2 _ t HTB.out _).mono ?_
            rintro r w5 ⟨rfl, hb5⟩
            have HV5 := hid (hV.out.stays hb5)
            clear hb5 d0 d1 d2 c hV
            have HIX := hid (ix_any W t)
            have e4 : four W t = .agg #[.int .i64 (pl W t 0 : Nat), .int .i64 (pl W t 1 : Nat), .int .i64 (pl W t 2 : Nat), .int .i64 (pl W t 3 : Nat)] := rfl
            rw [e4]
            generalize pl W t 0 = a0 at HIX ⊢
            generalize pl W t 1 = a1 at HIX ⊢
            generalize pl W t 2 = a2 at HIX ⊢
            generalize pl W t 3 = a3 at HIX ⊢
            clear e4
            go_wp2_with fail
            go_loopw [71, 15] (fun iv cv wr => ∃ (q C : Nat) (Y : Nat → Int) (g cp : Nat), q ≤ 4 ∧ iv = .int .i64 q ∧ cv = .int .i64 (C * 250 : Nat) ∧ Hid (lev W H n m F h (plc W T) Z (4 * i + q) = some (C, Y)) ∧ Hid (RL B ob W H n g cp #[.int .i64 W, .int .i64 H, .slice (some ⟨b, off, none⟩) n cap] Y w wr)) (fun iv _ _ => 4 - (intOf iv).toNat)
            case atStart => exact ⟨0, C, Y, g, cp, by omega, rfl, rfl, hL, HV5⟩
            case round =>
              clear HV5 hL
              obtain ⟨q, C, Y, g, cp, hq, rfl, rfl, hL, hV⟩ := hrel
              have hlv := HLI.out _ C Y (fun a ha => HPN.out a (by omega)) hL.out
              have hcost := hlv.cost
              have hgood := hid hlv.good
              have hC : C ≤ 70000000 := by
                have h5 : (4 * i + q) * (15 * n) ≤ 4000 * (15 * 1089) := Nat.mul_le_mul (by omega) (by omega)
                omega
              clear hlv hcost
              by_cases hq4 : q < 4
              · have hix := HIX.out q hq4
                have hxp := plc_at W T i q hq4
                rw [HTI.out, Int.toNat_natCast] at hxp
                have hxn := HPN.out (4 * i + q) (by omega)
                obtain ⟨x, hx⟩ : ∃ x, pl W t q = x := ⟨_, rfl⟩
                rw [hx] at hix hxp
                rw [hxp] at hxn
                have HXP := hid hxp
                clear hx hxp
                have hq5 : (q : Int) < 4 := by omega
                have HIV := hid (fun j c Y' => brg_inv (m := m) (F := F) hgood.out hxn HBR.out j c Y')
                have hzp := hgood.out.high x hxn
                obtain ⟨d, hd⟩ : ∃ d, (h - Y x).natAbs = d := ⟨_, rfl⟩
                have hd15 : d ≤ 15 := by omega
                rw [hd] at HIV
                have HP : Hid (brt W H n m F h x Y = brg W H n m F h x Y d) := hid (by unfold brt; rw [hd])
                have HD := hid hd
                have hxi : (x : Int) < (n : Int) := by omega
                have hx0 : (0 : Int) ≤ (x : Int) := by omega
                clear hd hzp
                go_wp2_with fail
                go_loopg [15] (d + 1) (fun gk cv wr => ∃ (j c : Nat) (Y' : Nat → Int) (g cp : Nat), gk + j = d + 1 ∧ j ≤ d ∧ cv = .int .i64 ((C + c) * 250 : Nat) ∧ Hid (brg W H n m F h x Y j = some (c, Y')) ∧ Hid (RL B ob W H n g cp #[.int .i64 W, .int .i64 H, .slice (some ⟨b, off, none⟩) n cap] Y' w wr))
                case atStart => exact ⟨0, 0, Y, g, cp, rfl, Nat.zero_le _, rfl, hid rfl, hV⟩
                case round =>
                  clear hV
                  obtain ⟨j, c, Y', g, cp, hjk, hj, rfl, hE, hV⟩ := hrel
                  have hinv := HIV.out j c Y' hj hE.out
                  have hyp := hinv.good.high x hxn
                  have hleft := hinv.left
                  rw [HD.out] at hleft
                  have hcc : c ≤ 20000 := by
                    have := hinv.cost
                    have : j * n ≤ 15 * 1089 := Nat.mul_le_mul (by omega) (by omega)
                    omega
                  obtain ⟨y, hy⟩ : ∃ y, Y' x = y := ⟨_, rfl⟩
                  rw [hy] at hyp hleft
                  obtain ⟨d0, s0, s1, s2, cx⟩ := RL.cells rfl hV.out (And.intro hxn hy) (Below.refl _ _)
                  by_cases hyh : y = h
                  · obtain rfl : j = d := by omega
                    have HN := hid (lev_yes hL.out (by rw [HXP.out, HP.out]; exact hE.out))
                    subst hyh
                    clear hinv hy hleft hyp
                    go_wp2_with fail
                    go_roundw
                    case rel => exact ⟨q + 1, C + c, Y', g, cp, by omega, by go_num, rfl, HN, hV⟩
                    case measure => simp [intOf]; omega
                  · have q1 : (y != h) = true := by simpa using hyh
                    obtain ⟨xm, hxm⟩ : ∃ xm, x % (W + 1) = xm := ⟨_, rfl⟩
                    obtain ⟨xd, hxd⟩ : ∃ xd, x / (W + 1) = xd := ⟨_, rfl⟩
                    have x3 : Int.tmod (x : Int) ((W : Int) + 1) = (xm : Int) := by rw [← hxm]; rfl
                    have x4 : Int.tdiv (x : Int) ((W : Int) + 1) = (xd : Int) := by rw [← hxd]; rfl
                    have hxmp : xm ≤ x := by rw [← hxm]; exact Nat.mod_le _ _
                    have hxdp : xd ≤ x := by rw [← hxd]; exact Nat.div_le_self _ _
                    have hjd : j < d := by omega
                    have x7 : ((W : Int) + 1 == 0) = false := by simp; omega
                    have x8 : ¬ ((W : Int) + 1 = 0) := by omega
                    have x5 : IntKind.i64.wrap (xm : Int) = (xm : Int) := IntWalk.i64_in _ (by omega)
                    have x6 : IntKind.i64.wrap (xd : Int) = (xd : Int) := IntWalk.i64_in _ (by omega)
                    have x9 : IntKind.i64.wrap ((W : Int) + 1) = (W : Int) + 1 := IntWalk.i64_in _ (by omega)
                    clear hyp hleft
                    by_cases hyl : y < h
                    · have hdir : dirS (Y' x) h = 1 := by rw [hy]; unfold dirS; rw [if_pos hyl]
                      have hdec : decide (y < h) = true := by simp; omega
                      have hway : Way true (dirS (Y' x) h) := by rw [hdir]; exact .inl ⟨rfl, rfl⟩
                      cases hb : stB W H n m F h x Y' with
                      | false =>
                        have HC := hid (fun (wx : World) (i1 : Ints wx (some ⟨g, 0, none⟩) n Y') (i2 : Ints wx fo m F) => refs_yes W H (some ⟨g, 0, none⟩) n cp Y' fo m capf hm F h x hinv.good hxn HBR.out (by rw [hy]; exact hyh) hb true hway wx i1 i2)
                        rw [hxm, hxd] at HC
                        have HN := hid (brg_yes hE.out hb)
                        have HIV2 := hid (HIV.out (j + 1) _ _ (by omega) HN.out)
                        have hcb := HIV2.out.cost
                        have hcb2 : c + (stL W n h x Y').length ≤ 20000 := by
                          have : (j + 1) * n ≤ 16 * 1089 := Nat.mul_le_mul (by omega) (by omega)
                          omega
                        obtain ⟨kk, hkk⟩ : ∃ kk, (stL W n h x Y').length = kk := ⟨_, rfl⟩
                        rw [hkk] at HC HN HIV2 hcb hcb2
                        have HXY := hid (And.intro hxn hy)
                        have HXI := hid (ints_of_row (hV.out.xs.drew))
                        have HFI := hid ((HFF.out.stays (HBB.out ▸ hV.out.b2.below : Below w.heap.size w wr)).stays (((Below.refl _ _).drew) : Below wr.heap.size wr wr.drew))
                        have HXA := hid (HXI.out.stays (Joins.below_alloc1 wr.drew (.cells #[.int .i64 0, .int .i64 0, .slice none 0 0] 24)))
                        have HFA := hid (HFI.out.stays (Joins.below_alloc1 wr.drew (.cells #[.int .i64 0, .int .i64 0, .slice none 0 0] 24)))
                        clear hinv hb hdir hxm hxd hkk hy hcb hway
                        go_wp2_with fail
                        go_region_held3 (fun w' => w'.cell? ⟨B, 0, none⟩ = some (.int .i64 W) ∧ w'.cell? ⟨ob, 0, none⟩ = some (.int .i64 W) ∧ w'.cell? ⟨ob, 1, none⟩ = some (.int .i64 H) ∧ w'.cell? ⟨ob, 2, none⟩ = some (.slice (some ⟨g, 0, none⟩) n cp) ∧ w'.cell? ⟨g, x, none⟩ = some (.int .i64 y))
                          (first
                            | exact RL.cells rfl hV.out HXY.out ((Below.refl _ _).drew)
                            | exact RL.cells rfl hV.out HXY.out (((Below.refl _ _).drew).trans hb9)
                            | exact RL.cells rfl hV.out HXY.out ((((Below.refl _ _).drew).trans hb9).alloc hb9.size _)
                            | exact RL.cells rfl hV.out HXY.out (((Below.refl _ _).drew).alloc (Nat.le_refl _) _)
                            | exact RL.cells rfl hV.out HXY.out ((((Below.refl _ _).drew).alloc (Nat.le_refl _) _).trans (hb9.mono (by simp)))
                            | exact RL.cells rfl hV.out HXY.out ((((((Below.refl _ _).drew).alloc (Nat.le_refl _) _).trans (hb9.mono (by simp))).setCell (Nat.le_refl _) _).setCell (Nat.le_refl _) _ |>.setCell (Nat.le_refl _) _)
                            | go_keep)
                          (first
                            | (go_at_call 35; refine (HC.out wr.drew HXI.out HFI.out).mono ?_; rintro r w9 ⟨g9, c9, vo, vc, rfl, hr9, hb9⟩)
                            | (go_at_call 35; refine (HC.out (wr.drew.alloc (.cells #[.int .i64 0, .int .i64 0, .slice none 0 0] 24)) HXA.out HFA.out).mono ?_; rintro r w9 ⟨g9, c9, vo, vc, rfl, hr9, hb9⟩; have hn : w9.heap[wr.heap.size]? = some (.cells #[.int .i64 0, .int .i64 0, .slice none 0 0] 24 (0, 0)) := (hb9.block wr.heap.size (by simp)).trans (heap_alloc_new wr.drew _); have n0 : w9.cell? ⟨wr.heap.size, 0, none⟩ = some (.int .i64 0) := cell_of_row w9 _ 0 _ _ _ hn; have n1 : w9.cell? ⟨wr.heap.size, 1, none⟩ = some (.int .i64 0) := cell_of_row w9 _ 1 _ _ _ hn; have n2 : w9.cell? ⟨wr.heap.size, 2, none⟩ = some (.slice none 0 0) := cell_of_row w9 _ 2 _ _ _ hn; have p0 : w9.frozen? ⟨wr.heap.size, 0, none⟩ = false := frozen_of_row w9 _ 0 _ _ hn; have p1 : w9.frozen? ⟨wr.heap.size, 1, none⟩ = false := frozen_of_row w9 _ 1 _ _ hn; have p2 : w9.frozen? ⟨wr.heap.size, 2, none⟩ = false := frozen_of_row w9 _ 2 _ _ hn; have hnz := heap_lt hn)
                            | fail)
                        · skip
                          have hb : Below wr.heap.size wr w9 := ((Below.refl _ _).drew).trans hb9
                          have hz9 := hb.size
                          have ka := Joins.below_alloc1 w9 (.cells #[.int .i64 W, .int .i64 H, .slice (some ⟨g9, 0, none⟩) n c9] 24)
                          have HY := hid ((hV.out.stays hb).stays ka)
                          have HR9 := hid (row_stays hr9 ka)
                          have hg9 := hr9.lt g9 rfl
                          have hozr := heap_lt hV.out.ho
                          have hobz : ob < wr.heap.size := hozr
                          have hg9' : wr.heap.size ≤ g9 := hg9.1
                          have hle5 : B + 2 ≤ wr.drew.heap.size := by have := hV.out.lt; show B + 2 ≤ wr.heap.size; omega
                          have o0 := cell_of_row _ ob 0 _ _ _ HY.out.ho
                          have o1 := cell_of_row _ ob 1 _ _ _ HY.out.ho
                          have o2 := cell_of_row _ ob 2 _ _ _ HY.out.ho
                          have p0 := frozen_of_row _ ob 0 _ _ HY.out.ho
                          have p1 := frozen_of_row _ ob 1 _ _ HY.out.ho
                          have p2 := frozen_of_row _ ob 2 _ _ HY.out.ho
                          have hoz := heap_lt HY.out.ho
                          go_wp2_with fail
                          clear o0 o1 o2 p0 p1 p2 hb9 x3 x4 x5 x6 x7 x8 x9
                          have hlt5 := hV.out.lt
                          have hgo5 : g9 ≠ ob := by omega
                          have hR5 := HR9.out.mono' hle5
                          have HPUT := hid (RL.put (W := W) (H := H) HY.out.b2 HY.out.ho hR5 hgo5 hlt5)
                          clear hR5
                          go_roundg (gk - 1)
                          case measure => omega
                          case rel => exact ⟨j + 1, c + kk, _, g9, c9, by omega, by omega, by first | go_num | (congr 1; omega), HN, HPUT⟩
                        · skip
                          have hb : Below wr.heap.size wr w9 := (((Below.refl _ _).drew).alloc (Nat.le_refl _) _).trans (hb9.mono (by simp))
                          have hbs : Below wr.heap.size wr (((w9.setCell ⟨wr.heap.size, 0, none⟩ (.int .i64 W)).setCell ⟨wr.heap.size, 1, none⟩ (.int .i64 H)).setCell ⟨wr.heap.size, 2, none⟩ (.slice (some ⟨g9, 0, none⟩) n c9)) := set3_below hb (Nat.le_refl _) _ _ _
                          have hg9 := hr9.lt g9 rfl
                          have hg9' : wr.heap.size + 1 ≤ g9 := by have := hg9.1; simp at this; omega
                          have HY := hid (hV.out.stays hbs)
                          have HR9 := hid (set3_row (g := wr.heap.size) hr9 (by simp [Value.ownBlock]; omega) (.int .i64 W) (.int .i64 H) (.slice (some ⟨g9, 0, none⟩) n c9))
                          have hozr := heap_lt hV.out.ho
                          have hobz : ob < wr.heap.size := hozr
                          have hob9 : ¬ wr.heap.size = ob := by omega
                          have hle5 : B + 2 ≤ (wr.drew.alloc (.cells #[.int .i64 0, .int .i64 0, .slice none 0 0] 24)).heap.size := by have := hV.out.lt; rw [World.size_alloc]; show B + 2 ≤ wr.heap.size + 1; omega
                          have hob8 : ¬ ob = wr.heap.size := by omega
                          have o0 := cell_of_row _ ob 0 _ _ _ (hV.out.stays hb).ho
                          have o1 := cell_of_row _ ob 1 _ _ _ (hV.out.stays hb).ho
                          have o2 := cell_of_row _ ob 2 _ _ _ (hV.out.stays hb).ho
                          have p0 := frozen_of_row _ ob 0 _ _ (hV.out.stays hb).ho
                          have p1 := frozen_of_row _ ob 1 _ _ (hV.out.stays hb).ho
                          have p2 := frozen_of_row _ ob 2 _ _ (hV.out.stays hb).ho
                          have hoz := heap_lt (hV.out.stays hb).ho
                          go_wp2_with fail
                          clear o0 o1 o2 p0 p1 p2 hb9 x3 x4 x5 x6 x7 x8 x9
                          have hlt5 := hV.out.lt
                          have hgo5 : g9 ≠ ob := by omega
                          have hR5 := HR9.out.mono' hle5
                          have HPUT := hid (RL.put (W := W) (H := H) HY.out.b2 HY.out.ho hR5 hgo5 hlt5)
                          clear hR5
                          go_roundg (gk - 1)
                          case measure => omega
                          case rel => exact ⟨j + 1, c + kk, _, g9, c9, by omega, by omega, by first | go_num | (congr 1; omega), HN, HPUT⟩
                      | true =>
                        have HC := hid (fun (wx : World) (i1 : Ints wx (some ⟨g, 0, none⟩) n Y') (i2 : Ints wx fo m F) => refs_no W H (some ⟨g, 0, none⟩) n cp Y' fo m capf hm F h x hinv.good hxn HBR.out (by rw [hy]; exact hyh) hb true hway wx i1 i2)
                        rw [hxm, hxd] at HC
                        have hno := brg_none (brg_no hE.out hb) (d - (j + 1))
                        rw [show j + 1 + (d - (j + 1)) = d by omega, ← HP.out] at hno
                        have HN := hid (lev_none (lev_no hL.out (by rw [HXP.out]; exact hno)) (4 * k - (4 * i + q + 1)))
                        rw [show 4 * i + q + 1 + (4 * k - (4 * i + q + 1)) = 4 * k by omega] at HN
                        have HXY := hid (And.intro hxn hy)
                        have HXI := hid (ints_of_row (hV.out.xs.drew))
                        have HFI := hid ((HFF.out.stays (HBB.out ▸ hV.out.b2.below : Below w.heap.size w wr)).stays (((Below.refl _ _).drew) : Below wr.heap.size wr wr.drew))
                        have HXA := hid (HXI.out.stays (Joins.below_alloc1 wr.drew (.cells #[.int .i64 0, .int .i64 0, .slice none 0 0] 24)))
                        have HFA := hid (HFI.out.stays (Joins.below_alloc1 wr.drew (.cells #[.int .i64 0, .int .i64 0, .slice none 0 0] 24)))
                        clear hinv hb hdir hxm hxd hy hway hno
                        go_wp2_with fail
                        go_region_held3 (fun w' => w'.cell? ⟨B, 0, none⟩ = some (.int .i64 W) ∧ w'.cell? ⟨ob, 0, none⟩ = some (.int .i64 W) ∧ w'.cell? ⟨ob, 1, none⟩ = some (.int .i64 H) ∧ w'.cell? ⟨ob, 2, none⟩ = some (.slice (some ⟨g, 0, none⟩) n cp) ∧ w'.cell? ⟨g, x, none⟩ = some (.int .i64 y))
                          (first
                            | exact RL.cells rfl hV.out HXY.out ((Below.refl _ _).drew)
                            | exact RL.cells rfl hV.out HXY.out (((Below.refl _ _).drew).trans hb9)
                            | exact RL.cells rfl hV.out HXY.out ((((Below.refl _ _).drew).trans hb9).alloc hb9.size _)
                            | exact RL.cells rfl hV.out HXY.out (((Below.refl _ _).drew).alloc (Nat.le_refl _) _)
                            | exact RL.cells rfl hV.out HXY.out ((((Below.refl _ _).drew).alloc (Nat.le_refl _) _).trans (hb9.mono (by simp)))
                            | exact RL.cells rfl hV.out HXY.out ((((((Below.refl _ _).drew).alloc (Nat.le_refl _) _).trans (hb9.mono (by simp))).setCell (Nat.le_refl _) _).setCell (Nat.le_refl _) _ |>.setCell (Nat.le_refl _) _)
                            | go_keep)
                          (first
                            | (go_at_call 35; refine (HC.out wr.drew HXI.out HFI.out).mono ?_; rintro r w9 ⟨rfl, hb9⟩)
                            | (go_at_call 35; refine (HC.out (wr.drew.alloc (.cells #[.int .i64 0, .int .i64 0, .slice none 0 0] 24)) HXA.out HFA.out).mono ?_; rintro r w9 ⟨rfl, hb9⟩; have hn : w9.heap[wr.heap.size]? = some (.cells #[.int .i64 0, .int .i64 0, .slice none 0 0] 24 (0, 0)) := (hb9.block wr.heap.size (by simp)).trans (heap_alloc_new wr.drew _); have n0 : w9.cell? ⟨wr.heap.size, 0, none⟩ = some (.int .i64 0) := cell_of_row w9 _ 0 _ _ _ hn; have n1 : w9.cell? ⟨wr.heap.size, 1, none⟩ = some (.int .i64 0) := cell_of_row w9 _ 1 _ _ _ hn; have n2 : w9.cell? ⟨wr.heap.size, 2, none⟩ = some (.slice none 0 0) := cell_of_row w9 _ 2 _ _ _ hn; have p0 : w9.frozen? ⟨wr.heap.size, 0, none⟩ = false := frozen_of_row w9 _ 0 _ _ hn; have p1 : w9.frozen? ⟨wr.heap.size, 1, none⟩ = false := frozen_of_row w9 _ 1 _ _ hn; have p2 : w9.frozen? ⟨wr.heap.size, 2, none⟩ = false := frozen_of_row w9 _ 2 _ _ hn; have hnz := heap_lt hn)
                            | fail)
                        · skip
                          have hb : Below wr.heap.size wr w9 := ((Below.refl _ _).drew).trans hb9
                          have ka := Joins.below_alloc1 w9 (.cells #[.int .i64 0, .int .i64 0, .slice none 0 0] 24)
                          have HZ := hid ((hV.out.b2.stays hb).stays ka)
                          have hr := HZ.out.hr
                          have r0 := cell_of_row _ (B + 1) 0 _ _ _ hr
                          have r1 := cell_of_row _ (B + 1) 1 _ _ _ hr
                          have r2 := cell_of_row _ (B + 1) 2 _ _ _ hr
                          simp only [List.getElem?_toArray, List.getElem?_cons_zero, List.getElem?_cons_succ] at r0 r1 r2
                          have f0 := frozen_of_row _ (B + 1) 0 _ _ hr
                          have f1 := frozen_of_row _ (B + 1) 1 _ _ hr
                          have f2 := frozen_of_row _ (B + 1) 2 _ _ hr
                          have hbz := heap_lt hr
                          clear hr
                          go_wp2_with fail
                          have k3 := set3 HZ.out.hr (.int .i64 0) (.int .i64 0) (.slice none 0 0)
                          have k4 := set3_below (g := B + 1) HZ.out.below (Nat.le_succ _) (.int .i64 0) (.int .i64 0) (.slice none 0 0)
                          clear r0 r1 r2 f0 f1 f2
                          generalize World.setCell _ _ _ = w10 at k3 k4 ⊢
                          have q0 := cell_of_row w10 (B + 1) 0 _ _ _ k3
                          have q1 := cell_of_row w10 (B + 1) 1 _ _ _ k3
                          have q2 := cell_of_row w10 (B + 1) 2 _ _ _ k3
                          simp at q0 q1 q2
                          refine bodyPost_ret (v := none3 7) (by simp [results, Try.results38, go_sem, q0, q1, q2]) rfl ⟨?_, .inl ⟨HN.out, rfl⟩⟩
                          rw [← HBB.out]; exact k4
                        · skip
                          have hb : Below wr.heap.size wr w9 := (((Below.refl _ _).drew).alloc (Nat.le_refl _) _).trans (hb9.mono (by simp))
                          have HZ := hid (hV.out.b2.stays (set3_below hb (Nat.le_refl _) (.int .i64 0) (.int .i64 0) (.slice none 0 0)))
                          have hr := (hV.out.b2.stays hb).hr
                          have hBz := heap_lt hV.out.b2.hr
                          have nb1 : ¬ wr.heap.size = B + 1 := by omega
                          have nb2 : ¬ B + 1 = wr.heap.size := by omega
                          have r0 := cell_of_row _ (B + 1) 0 _ _ _ hr
                          have r1 := cell_of_row _ (B + 1) 1 _ _ _ hr
                          have r2 := cell_of_row _ (B + 1) 2 _ _ _ hr
                          simp only [List.getElem?_toArray, List.getElem?_cons_zero, List.getElem?_cons_succ] at r0 r1 r2
                          have f0 := frozen_of_row _ (B + 1) 0 _ _ hr
                          have f1 := frozen_of_row _ (B + 1) 1 _ _ hr
                          have f2 := frozen_of_row _ (B + 1) 2 _ _ hr
                          have hbz := heap_lt hr
                          clear hr
                          go_wp2_with fail
                          have k3 := set3 HZ.out.hr (.int .i64 0) (.int .i64 0) (.slice none 0 0)
                          have k4 := set3_below (g := B + 1) HZ.out.below (Nat.le_succ _) (.int .i64 0) (.int .i64 0) (.slice none 0 0)
                          clear r0 r1 r2 f0 f1 f2
                          generalize World.setCell _ _ _ = w10 at k3 k4 ⊢
                          have q0 := cell_of_row w10 (B + 1) 0 _ _ _ k3
                          have q1 := cell_of_row w10 (B + 1) 1 _ _ _ k3
                          have q2 := cell_of_row w10 (B + 1) 2 _ _ _ k3
                          simp at q0 q1 q2
                          refine bodyPost_ret (v := none3 7) (by simp [results, Try.results38, go_sem, q0, q1, q2]) rfl ⟨?_, .inl ⟨HN.out, rfl⟩⟩
                          rw [← HBB.out]; exact k4
                    · have hdir : dirS (Y' x) h = -1 := by rw [hy]; unfold dirS; rw [if_neg hyl]
                      have hdec : decide (y < h) = false := by simp; omega
                      have hway : Way false (dirS (Y' x) h) := by rw [hdir]; exact .inr ⟨rfl, rfl⟩
                      cases hb : stB W H n m F h x Y' with
                      | false =>
                        have HC := hid (fun (wx : World) (i1 : Ints wx (some ⟨g, 0, none⟩) n Y') (i2 : Ints wx fo m F) => refs_yes W H (some ⟨g, 0, none⟩) n cp Y' fo m capf hm F h x hinv.good hxn HBR.out (by rw [hy]; exact hyh) hb false hway wx i1 i2)
                        rw [hxm, hxd] at HC
                        have HN := hid (brg_yes hE.out hb)
                        have HIV2 := hid (HIV.out (j + 1) _ _ (by omega) HN.out)
                        have hcb := HIV2.out.cost
                        have hcb2 : c + (stL W n h x Y').length ≤ 20000 := by
                          have : (j + 1) * n ≤ 16 * 1089 := Nat.mul_le_mul (by omega) (by omega)
                          omega
                        obtain ⟨kk, hkk⟩ : ∃ kk, (stL W n h x Y').length = kk := ⟨_, rfl⟩
                        rw [hkk] at HC HN HIV2 hcb hcb2
                        have HXY := hid (And.intro hxn hy)
                        have HXI := hid (ints_of_row (hV.out.xs.drew))
                        have HFI := hid ((HFF.out.stays (HBB.out ▸ hV.out.b2.below : Below w.heap.size w wr)).stays (((Below.refl _ _).drew) : Below wr.heap.size wr wr.drew))
                        have HXA := hid (HXI.out.stays (Joins.below_alloc1 wr.drew (.cells #[.int .i64 0, .int .i64 0, .slice none 0 0] 24)))
                        have HFA := hid (HFI.out.stays (Joins.below_alloc1 wr.drew (.cells #[.int .i64 0, .int .i64 0, .slice none 0 0] 24)))
                        clear hinv hb hdir hxm hxd hkk hy hcb hway
                        go_wp2_with fail
                        go_region_held3 (fun w' => w'.cell? ⟨B, 0, none⟩ = some (.int .i64 W) ∧ w'.cell? ⟨ob, 0, none⟩ = some (.int .i64 W) ∧ w'.cell? ⟨ob, 1, none⟩ = some (.int .i64 H) ∧ w'.cell? ⟨ob, 2, none⟩ = some (.slice (some ⟨g, 0, none⟩) n cp) ∧ w'.cell? ⟨g, x, none⟩ = some (.int .i64 y))
                          (first
                            | exact RL.cells rfl hV.out HXY.out ((Below.refl _ _).drew)
                            | exact RL.cells rfl hV.out HXY.out (((Below.refl _ _).drew).trans hb9)
                            | exact RL.cells rfl hV.out HXY.out ((((Below.refl _ _).drew).trans hb9).alloc hb9.size _)
                            | exact RL.cells rfl hV.out HXY.out (((Below.refl _ _).drew).alloc (Nat.le_refl _) _)
                            | exact RL.cells rfl hV.out HXY.out ((((Below.refl _ _).drew).alloc (Nat.le_refl _) _).trans (hb9.mono (by simp)))
                            | exact RL.cells rfl hV.out HXY.out ((((((Below.refl _ _).drew).alloc (Nat.le_refl _) _).trans (hb9.mono (by simp))).setCell (Nat.le_refl _) _).setCell (Nat.le_refl _) _ |>.setCell (Nat.le_refl _) _)
                            | go_keep)
                          (first
                            | (go_at_call 35; refine (HC.out wr.drew HXI.out HFI.out).mono ?_; rintro r w9 ⟨g9, c9, vo, vc, rfl, hr9, hb9⟩)
                            | (go_at_call 35; refine (HC.out (wr.drew.alloc (.cells #[.int .i64 0, .int .i64 0, .slice none 0 0] 24)) HXA.out HFA.out).mono ?_; rintro r w9 ⟨g9, c9, vo, vc, rfl, hr9, hb9⟩; have hn : w9.heap[wr.heap.size]? = some (.cells #[.int .i64 0, .int .i64 0, .slice none 0 0] 24 (0, 0)) := (hb9.block wr.heap.size (by simp)).trans (heap_alloc_new wr.drew _); have n0 : w9.cell? ⟨wr.heap.size, 0, none⟩ = some (.int .i64 0) := cell_of_row w9 _ 0 _ _ _ hn; have n1 : w9.cell? ⟨wr.heap.size, 1, none⟩ = some (.int .i64 0) := cell_of_row w9 _ 1 _ _ _ hn; have n2 : w9.cell? ⟨wr.heap.size, 2, none⟩ = some (.slice none 0 0) := cell_of_row w9 _ 2 _ _ _ hn; have p0 : w9.frozen? ⟨wr.heap.size, 0, none⟩ = false := frozen_of_row w9 _ 0 _ _ hn; have p1 : w9.frozen? ⟨wr.heap.size, 1, none⟩ = false := frozen_of_row w9 _ 1 _ _ hn; have p2 : w9.frozen? ⟨wr.heap.size, 2, none⟩ = false := frozen_of_row w9 _ 2 _ _ hn; have hnz := heap_lt hn)
                            | fail)
                        · skip
                          have hb : Below wr.heap.size wr w9 := ((Below.refl _ _).drew).trans hb9
                          have hz9 := hb.size
                          have ka := Joins.below_alloc1 w9 (.cells #[.int .i64 W, .int .i64 H, .slice (some ⟨g9, 0, none⟩) n c9] 24)
                          have HY := hid ((hV.out.stays hb).stays ka)
                          have HR9 := hid (row_stays hr9 ka)
                          have hg9 := hr9.lt g9 rfl
                          have hozr := heap_lt hV.out.ho
                          have hobz : ob < wr.heap.size := hozr
                          have hg9' : wr.heap.size ≤ g9 := hg9.1
                          have hle5 : B + 2 ≤ wr.drew.heap.size := by have := hV.out.lt; show B + 2 ≤ wr.heap.size; omega
                          have o0 := cell_of_row _ ob 0 _ _ _ HY.out.ho
                          have o1 := cell_of_row _ ob 1 _ _ _ HY.out.ho
                          have o2 := cell_of_row _ ob 2 _ _ _ HY.out.ho
                          have p0 := frozen_of_row _ ob 0 _ _ HY.out.ho
                          have p1 := frozen_of_row _ ob 1 _ _ HY.out.ho
                          have p2 := frozen_of_row _ ob 2 _ _ HY.out.ho
                          have hoz := heap_lt HY.out.ho
                          go_wp2_with fail
                          clear o0 o1 o2 p0 p1 p2 hb9 x3 x4 x5 x6 x7 x8 x9
                          have hlt5 := hV.out.lt
                          have hgo5 : g9 ≠ ob := by omega
                          have hR5 := HR9.out.mono' hle5
                          have HPUT := hid (RL.put (W := W) (H := H) HY.out.b2 HY.out.ho hR5 hgo5 hlt5)
                          clear hR5
                          go_roundg (gk - 1)
                          case measure => omega
                          case rel => exact ⟨j + 1, c + kk, _, g9, c9, by omega, by omega, by first | go_num | (congr 1; omega), HN, HPUT⟩
                        · skip
                          have hb : Below wr.heap.size wr w9 := (((Below.refl _ _).drew).alloc (Nat.le_refl _) _).trans (hb9.mono (by simp))
                          have hbs : Below wr.heap.size wr (((w9.setCell ⟨wr.heap.size, 0, none⟩ (.int .i64 W)).setCell ⟨wr.heap.size, 1, none⟩ (.int .i64 H)).setCell ⟨wr.heap.size, 2, none⟩ (.slice (some ⟨g9, 0, none⟩) n c9)) := set3_below hb (Nat.le_refl _) _ _ _
                          have hg9 := hr9.lt g9 rfl
                          have hg9' : wr.heap.size + 1 ≤ g9 := by have := hg9.1; simp at this; omega
                          have HY := hid (hV.out.stays hbs)
                          have HR9 := hid (set3_row (g := wr.heap.size) hr9 (by simp [Value.ownBlock]; omega) (.int .i64 W) (.int .i64 H) (.slice (some ⟨g9, 0, none⟩) n c9))
                          have hozr := heap_lt hV.out.ho
                          have hobz : ob < wr.heap.size := hozr
                          have hob9 : ¬ wr.heap.size = ob := by omega
                          have hle5 : B + 2 ≤ (wr.drew.alloc (.cells #[.int .i64 0, .int .i64 0, .slice none 0 0] 24)).heap.size := by have := hV.out.lt; rw [World.size_alloc]; show B + 2 ≤ wr.heap.size + 1; omega
                          have hob8 : ¬ ob = wr.heap.size := by omega
                          have o0 := cell_of_row _ ob 0 _ _ _ (hV.out.stays hb).ho
                          have o1 := cell_of_row _ ob 1 _ _ _ (hV.out.stays hb).ho
                          have o2 := cell_of_row _ ob 2 _ _ _ (hV.out.stays hb).ho
                          have p0 := frozen_of_row _ ob 0 _ _ (hV.out.stays hb).ho
                          have p1 := frozen_of_row _ ob 1 _ _ (hV.out.stays hb).ho
                          have p2 := frozen_of_row _ ob 2 _ _ (hV.out.stays hb).ho
                          have hoz := heap_lt (hV.out.stays hb).ho
                          go_wp2_with fail
                          clear o0 o1 o2 p0 p1 p2 hb9 x3 x4 x5 x6 x7 x8 x9
                          have hlt5 := hV.out.lt
                          have hgo5 : g9 ≠ ob := by omega
                          have hR5 := HR9.out.mono' hle5
                          have HPUT := hid (RL.put (W := W) (H := H) HY.out.b2 HY.out.ho hR5 hgo5 hlt5)
                          clear hR5
                          go_roundg (gk - 1)
                          case measure => omega
                          case rel => exact ⟨j + 1, c + kk, _, g9, c9, by omega, by omega, by first | go_num | (congr 1; omega), HN, HPUT⟩
                      | true =>
                        have HC := hid (fun (wx : World) (i1 : Ints wx (some ⟨g, 0, none⟩) n Y') (i2 : Ints wx fo m F) => refs_no W H (some ⟨g, 0, none⟩) n cp Y' fo m capf hm F h x hinv.good hxn HBR.out (by rw [hy]; exact hyh) hb false hway wx i1 i2)
                        rw [hxm, hxd] at HC
                        have hno := brg_none (brg_no hE.out hb) (d - (j + 1))
                        rw [show j + 1 + (d - (j + 1)) = d by omega, ← HP.out] at hno
                        have HN := hid (lev_none (lev_no hL.out (by rw [HXP.out]; exact hno)) (4 * k - (4 * i + q + 1)))
                        rw [show 4 * i + q + 1 + (4 * k - (4 * i + q + 1)) = 4 * k by omega] at HN
                        have HXY := hid (And.intro hxn hy)
                        have HXI := hid (ints_of_row (hV.out.xs.drew))
                        have HFI := hid ((HFF.out.stays (HBB.out ▸ hV.out.b2.below : Below w.heap.size w wr)).stays (((Below.refl _ _).drew) : Below wr.heap.size wr wr.drew))
                        have HXA := hid (HXI.out.stays (Joins.below_alloc1 wr.drew (.cells #[.int .i64 0, .int .i64 0, .slice none 0 0] 24)))
                        have HFA := hid (HFI.out.stays (Joins.below_alloc1 wr.drew (.cells #[.int .i64 0, .int .i64 0, .slice none 0 0] 24)))
                        clear hinv hb hdir hxm hxd hy hway hno
                        go_wp2_with fail
                        go_region_held3 (fun w' => w'.cell? ⟨B, 0, none⟩ = some (.int .i64 W) ∧ w'.cell? ⟨ob, 0, none⟩ = some (.int .i64 W) ∧ w'.cell? ⟨ob, 1, none⟩ = some (.int .i64 H) ∧ w'.cell? ⟨ob, 2, none⟩ = some (.slice (some ⟨g, 0, none⟩) n cp) ∧ w'.cell? ⟨g, x, none⟩ = some (.int .i64 y))
                          (first
                            | exact RL.cells rfl hV.out HXY.out ((Below.refl _ _).drew)
                            | exact RL.cells rfl hV.out HXY.out (((Below.refl _ _).drew).trans hb9)
                            | exact RL.cells rfl hV.out HXY.out ((((Below.refl _ _).drew).trans hb9).alloc hb9.size _)
                            | exact RL.cells rfl hV.out HXY.out (((Below.refl _ _).drew).alloc (Nat.le_refl _) _)
                            | exact RL.cells rfl hV.out HXY.out ((((Below.refl _ _).drew).alloc (Nat.le_refl _) _).trans (hb9.mono (by simp)))
                            | exact RL.cells rfl hV.out HXY.out ((((((Below.refl _ _).drew).alloc (Nat.le_refl _) _).trans (hb9.mono (by simp))).setCell (Nat.le_refl _) _).setCell (Nat.le_refl _) _ |>.setCell (Nat.le_refl _) _)
                            | go_keep)
                          (first
                            | (go_at_call 35; refine (HC.out wr.drew HXI.out HFI.out).mono ?_; rintro r w9 ⟨rfl, hb9⟩)
                            | (go_at_call 35; refine (HC.out (wr.drew.alloc (.cells #[.int .i64 0, .int .i64 0, .slice none 0 0] 24)) HXA.out HFA.out).mono ?_; rintro r w9 ⟨rfl, hb9⟩; have hn : w9.heap[wr.heap.size]? = some (.cells #[.int .i64 0, .int .i64 0, .slice none 0 0] 24 (0, 0)) := (hb9.block wr.heap.size (by simp)).trans (heap_alloc_new wr.drew _); have n0 : w9.cell? ⟨wr.heap.size, 0, none⟩ = some (.int .i64 0) := cell_of_row w9 _ 0 _ _ _ hn; have n1 : w9.cell? ⟨wr.heap.size, 1, none⟩ = some (.int .i64 0) := cell_of_row w9 _ 1 _ _ _ hn; have n2 : w9.cell? ⟨wr.heap.size, 2, none⟩ = some (.slice none 0 0) := cell_of_row w9 _ 2 _ _ _ hn; have p0 : w9.frozen? ⟨wr.heap.size, 0, none⟩ = false := frozen_of_row w9 _ 0 _ _ hn; have p1 : w9.frozen? ⟨wr.heap.size, 1, none⟩ = false := frozen_of_row w9 _ 1 _ _ hn; have p2 : w9.frozen? ⟨wr.heap.size, 2, none⟩ = false := frozen_of_row w9 _ 2 _ _ hn; have hnz := heap_lt hn)
                            | fail)
                        · skip
                          have hb : Below wr.heap.size wr w9 := ((Below.refl _ _).drew).trans hb9
                          have ka := Joins.below_alloc1 w9 (.cells #[.int .i64 0, .int .i64 0, .slice none 0 0] 24)
                          have HZ := hid ((hV.out.b2.stays hb).stays ka)
                          have hr := HZ.out.hr
                          have r0 := cell_of_row _ (B + 1) 0 _ _ _ hr
                          have r1 := cell_of_row _ (B + 1) 1 _ _ _ hr
                          have r2 := cell_of_row _ (B + 1) 2 _ _ _ hr
                          simp only [List.getElem?_toArray, List.getElem?_cons_zero, List.getElem?_cons_succ] at r0 r1 r2
                          have f0 := frozen_of_row _ (B + 1) 0 _ _ hr
                          have f1 := frozen_of_row _ (B + 1) 1 _ _ hr
                          have f2 := frozen_of_row _ (B + 1) 2 _ _ hr
                          have hbz := heap_lt hr
                          clear hr
                          go_wp2_with fail
                          have k3 := set3 HZ.out.hr (.int .i64 0) (.int .i64 0) (.slice none 0 0)
                          have k4 := set3_below (g := B + 1) HZ.out.below (Nat.le_succ _) (.int .i64 0) (.int .i64 0) (.slice none 0 0)
                          clear r0 r1 r2 f0 f1 f2
                          generalize World.setCell _ _ _ = w10 at k3 k4 ⊢
                          have q0 := cell_of_row w10 (B + 1) 0 _ _ _ k3
                          have q1 := cell_of_row w10 (B + 1) 1 _ _ _ k3
                          have q2 := cell_of_row w10 (B + 1) 2 _ _ _ k3
                          simp at q0 q1 q2
                          refine bodyPost_ret (v := none3 7) (by simp [results, Try.results38, go_sem, q0, q1, q2]) rfl ⟨?_, .inl ⟨HN.out, rfl⟩⟩
                          rw [← HBB.out]; exact k4
                        · skip
                          have hb : Below wr.heap.size wr w9 := (((Below.refl _ _).drew).alloc (Nat.le_refl _) _).trans (hb9.mono (by simp))
                          have HZ := hid (hV.out.b2.stays (set3_below hb (Nat.le_refl _) (.int .i64 0) (.int .i64 0) (.slice none 0 0)))
                          have hr := (hV.out.b2.stays hb).hr
                          have hBz := heap_lt hV.out.b2.hr
                          have nb1 : ¬ wr.heap.size = B + 1 := by omega
                          have nb2 : ¬ B + 1 = wr.heap.size := by omega
                          have r0 := cell_of_row _ (B + 1) 0 _ _ _ hr
                          have r1 := cell_of_row _ (B + 1) 1 _ _ _ hr
                          have r2 := cell_of_row _ (B + 1) 2 _ _ _ hr
                          simp only [List.getElem?_toArray, List.getElem?_cons_zero, List.getElem?_cons_succ] at r0 r1 r2
                          have f0 := frozen_of_row _ (B + 1) 0 _ _ hr
                          have f1 := frozen_of_row _ (B + 1) 1 _ _ hr
                          have f2 := frozen_of_row _ (B + 1) 2 _ _ hr
                          have hbz := heap_lt hr
                          clear hr
                          go_wp2_with fail
                          have k3 := set3 HZ.out.hr (.int .i64 0) (.int .i64 0) (.slice none 0 0)
                          have k4 := set3_below (g := B + 1) HZ.out.below (Nat.le_succ _) (.int .i64 0) (.int .i64 0) (.slice none 0 0)
                          clear r0 r1 r2 f0 f1 f2
                          generalize World.setCell _ _ _ = w10 at k3 k4 ⊢
                          have q0 := cell_of_row w10 (B + 1) 0 _ _ _ k3
                          have q1 := cell_of_row w10 (B + 1) 1 _ _ _ k3
                          have q2 := cell_of_row w10 (B + 1) 2 _ _ _ k3
                          simp at q0 q1 q2
                          refine bodyPost_ret (v := none3 7) (by simp [results, Try.results38, go_sem, q0, q1, q2]) rfl ⟨?_, .inl ⟨HN.out, rfl⟩⟩
                          rw [← HBB.out]; exact k4
              · obtain rfl : q = 4 := by omega
                go_wp2_with fail
                go_roundw
                case rel => exact ⟨i + 1, C, Y, g, cp, by omega, by go_num, rfl, hid (by rw [show 4 * (i + 1) = 4 * i + 4 by omega]; exact hL.out), hV⟩
                case measure => simp [intOf]; omega
          · obtain rfl : k = i := by omega
            have s0 := cell_of_row _ ob 0 _ _ _ hV.out.ho
            have s1 := cell_of_row _ ob 1 _ _ _ hV.out.ho
            have s2 := cell_of_row _ ob 2 _ _ _ hV.out.ho
            simp only [List.getElem?_toArray, List.getElem?_cons_zero, List.getElem?_cons_succ] at s0 s1 s2
            have hr := hV.out.b2.hr
            have hg1B := (hV.out.xs.lt g rfl).1
            have r0 := cell_of_row _ (B + 1) 0 _ _ _ hr
            have r1 := cell_of_row _ (B + 1) 1 _ _ _ hr
            have r2 := cell_of_row _ (B + 1) 2 _ _ _ hr
            simp only [List.getElem?_toArray, List.getElem?_cons_zero, List.getElem?_cons_succ] at r0 r1 r2
            have f0 := frozen_of_row _ (B + 1) 0 _ _ hr
            have f1 := frozen_of_row _ (B + 1) 1 _ _ hr
            have f2 := frozen_of_row _ (B + 1) 2 _ _ hr
            have hbz := heap_lt hr
            have hol := hV.out.lt
            have n1 : ¬ ob = B + 1 := by omega
            have n2 : ¬ B + 1 = ob := by omega
            clear hr
            go_wp2_with fail
            have k3 := set3 hV.out.b2.hr (.int .i64 W) (.int .i64 H) (.slice (some ⟨g, 0, none⟩) n cp)
            have k4 := set3_below (g := B + 1) hV.out.b2.below (Nat.le_succ _) (.int .i64 W) (.int .i64 H) (.slice (some ⟨g, 0, none⟩) n cp)
            have k5 := set3_row (g := B + 1) hV.out.xs (by simp [Value.ownBlock]; omega) (.int .i64 W) (.int .i64 H) (.slice (some ⟨g, 0, none⟩) n cp)
            clear r0 r1 r2 f0 f1 f2 s0 s1 s2
            generalize World.setCell _ _ _ = w9 at k3 k4 k5 ⊢
            have q0 := cell_of_row w9 (B + 1) 0 _ _ _ k3
            have q1 := cell_of_row w9 (B + 1) 1 _ _ _ k3
            have q2 := cell_of_row w9 (B + 1) 2 _ _ _ k3
            simp at q0 q1 q2
            refine bodyPost_ret (v := .tuple #[lv W H (.slice (some ⟨g, 0, none⟩) n cp), .int .i64 (C * 250 : Nat), .int .i64 0]) (by simp [results, Try.results38, go_sem, q0, q1, q2]) rfl ⟨?_, .inr ⟨C, Y, _, cp, hL.out, rfl, ints_of_row k5⟩⟩
            rw [← HBB.out]; exact k4
end Go.Proofs.Ytngamphkehppfaa
