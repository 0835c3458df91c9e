/-
  The walks of Level, of the program and of the reference, where they refuse.
-/
import Derived.Test.YtngamphkehppfaaWalkBring
import Derived.Test.YtngamphkehppfaaWalkTile
namespace Go.Proofs.Ytngamphkehppfaa
open Go.RowKit

/-- No land, no cost, an error. -/
abbrev none3 (e : Int) : Value := .tuple #[lv 0 0 (.slice none 0 0), .int .i64 0, .int .i64 e]
/-- What refuses to make tiles flat, ahead of all work. -/
def LErr (W H : Int) (n : Nat) (Z : Nat → Int) (k : Nat) (T : Nat → Int) (h e : Int) : Prop :=
  (e ≠ 0 ∧ VErr W H n Z e) ∨ (e = 1 ∧ Valid W H n Z ∧ (¬ (0 ≤ h ∧ h ≤ 15) ∨ 1000 < k)) ∨
  (e = 2 ∧ ∃ W' H' : Nat, W = W' ∧ H = H' ∧ Good W' H' n Z ∧ (0 ≤ h ∧ h ≤ 15) ∧ k ≤ 1000 ∧ ∃ i, i < k ∧ tileB W' H' (T i) = false)
theorem level_cases (W H : Int) (n : Nat) (Z : Nat → Int) (k : Nat) (T : Nat → Int) (h : Int) : (∃ e, LErr W H n Z k T h e) ∨
    ∃ W' H' : Nat, W = W' ∧ H = H' ∧ Good W' H' n Z ∧ (0 ≤ h ∧ h ≤ 15) ∧ k ≤ 1000 ∧ ∀ i, i < k → tileB W' H' (T i) = true := by
  obtain ⟨e, he⟩ := VErr.ex W H n Z
  by_cases h0 : e = 0
  · subst h0
    by_cases h1 : ¬ (0 ≤ h ∧ h ≤ 15) ∨ 1000 < k
    · exact .inl ⟨1, .inr (.inl ⟨rfl, he.ok, h1⟩)⟩
    · obtain ⟨W', H', rfl, rfl, hg⟩ := he.ok.good
      have h2 : 0 ≤ h ∧ h ≤ 15 := by
        by_cases q : 0 ≤ h ∧ h ≤ 15
        · exact q
        · exact absurd (.inl q) h1
      have h3 : k ≤ 1000 := by
        by_cases q : k ≤ 1000
        · exact q
        · exact absurd (.inr (by omega)) h1
      by_cases h4 : ∃ i, i < k ∧ tileB W' H' (T i) = false
      · exact .inl ⟨2, .inr (.inr ⟨rfl, W', H', rfl, rfl, hg, h2, h3, h4⟩)⟩
      · refine .inr ⟨W', H', rfl, rfl, hg, h2, h3, fun i hi => ?_⟩
        cases ht : tileB W' H' (T i) with
        | true => rfl
        | false => exact absurd ⟨i, hi, ht⟩ h4
  · exact .inl ⟨e, .inl ⟨h0, he⟩⟩

set_option maxRecDepth 20000 in
set_option maxRecDepth 20000 in
set_option maxHeartbeats 1600000 in
theorem level_bad (W H : Int) (ao : Option Addr) (n cap : Nat) (Z : Nat → Int) (hn : n ≤ 9223372036854775807) (to : Option Addr) (k capt : Nat) (h : Int) (f : Value) (w : World) (hI : Ints w ao n Z) (e : Int) (he : e ≠ 0) (hE : VErr W H n Z e) :
    Calls Try.prog 37 #[lv W H (.slice ao n cap), .slice to k capt, .int .i64 h, f] w fun r w' => r = .returned (none3 e) ∧ Below w.heap.size w w' := by
  have hst := bx2_start w #[.int .i64 W, .int .i64 H, .slice ao n cap] #[.int .i64 0, .int .i64 0, .slice none 0 0]
  have HI := hid (hI.stays hst.below)
  have HST := hid hst
  have HE := hid hE
  have g : (e != 0) = true := by simpa using he
  clear hI hE hst
  go_enter Try.func37, Try.ntmps37
  go_wp2_with fail
  refine (validate_any W H ao n cap Z hn _ HI.out e HE.out).mono ?_
  rintro r w2 ⟨rfl, hb2⟩
  have H2 := hid (HST.out.stays hb2)
  obtain ⟨B, hB⟩ : ∃ B, B = w.heap.size := ⟨_, rfl⟩
  have HBB := hid hB
  simp only [← hB] at H2 ⊢
  clear hB
  have hr := H2.out.hr
  have r0 : w2.cell? ⟨B + 1, 0, none⟩ = some (.int .i64 0) := cell_of_row w2 (B + 1) 0 _ _ _ hr
  have r1 : w2.cell? ⟨B + 1, 1, none⟩ = some (.int .i64 0) := cell_of_row w2 (B + 1) 1 _ _ _ hr
  have r2 : w2.cell? ⟨B + 1, 2, none⟩ = some (.slice none 0 0) := cell_of_row w2 (B + 1) 2 _ _ _ hr
  have f0 : w2.frozen? ⟨B + 1, 0, none⟩ = false := frozen_of_row w2 (B + 1) 0 _ _ hr
  have f1 : w2.frozen? ⟨B + 1, 1, none⟩ = false := frozen_of_row w2 (B + 1) 1 _ _ hr
  have f2 : w2.frozen? ⟨B + 1, 2, none⟩ = false := frozen_of_row w2 (B + 1) 2 _ _ hr
  have hbz := heap_lt hr
  clear hb2 hr HI HST
  go_wp2_with fail
  have k3 := set3 H2.out.hr (.int .i64 0) (.int .i64 0) (.slice none 0 0)
  have k4 := set3_below (g := B + 1) H2.out.below (Nat.le_succ _) (.int .i64 0) (.int .i64 0) (.slice none 0 0)
  clear r0 r1 r2 f0 f1 f2
  generalize World.setCell _ _ _ = w5 at k3 k4 ⊢
  have q0 := cell_of_row w5 (B + 1) 0 _ _ _ k3
  have q1 := cell_of_row w5 (B + 1) 1 _ _ _ k3
  have q2 := cell_of_row w5 (B + 1) 2 _ _ _ k3
  simp at q0 q1 q2
  refine bodyPost_ret (v := none3 e) (by simp [results, Try.results37, go_sem, q0, q1, q2]) rfl ⟨rfl, ?_⟩
  rw [← HBB.out]; exact k4

set_option maxRecDepth 20000 in
set_option maxHeartbeats 1600000 in
theorem level_arg (W H : Int) (ao : Option Addr) (n cap : Nat) (Z : Nat → Int) (hn : n ≤ 9223372036854775807) (to : Option Addr) (k capt : Nat) (hk : k ≤ 9223372036854775807) (h : Int) (f : Value) (w : World) (hI : Ints w ao n Z) (hV : Valid W H n Z) (ha : ¬ (0 ≤ h ∧ h ≤ 15) ∨ 1000 < k) :
    Calls Try.prog 37 #[lv W H (.slice ao n cap), .slice to k capt, .int .i64 h, f] w fun r w' => r = .returned (none3 1) ∧ Below w.heap.size w w' := by
  have hst := bx2_start w #[.int .i64 W, .int .i64 H, .slice ao n cap] #[.int .i64 0, .int .i64 0, .slice none 0 0]
  have HI := hid (hI.stays hst.below)
  have HST := hid hst
  have HE := hid hV.err
  have HA := hid ha
  clear hI hV hst ha
  have key : h < 0 ∨ (0 ≤ h ∧ 15 < h) ∨ (0 ≤ h ∧ h ≤ 15 ∧ 1000 < k) := by have := HA.out; omega
  rcases key with h1 | ⟨h1, h2⟩ | ⟨h1, h2, h3⟩
  all_goals
    go_enter Try.func37, Try.ntmps37
    go_wp2_with fail
    refine (validate_any W H ao n cap Z hn _ HI.out 0 HE.out).mono ?_
    rintro r w2 ⟨rfl, hb2⟩
    have H2 := hid (HST.out.stays hb2)
    obtain ⟨B, hB⟩ : ∃ B, B = w.heap.size := ⟨_, rfl⟩
    have HBB := hid hB
    simp only [← hB] at H2 ⊢
    clear hB
    have hr := H2.out.hr
    have r0 : w2.cell? ⟨B + 1, 0, none⟩ = some (.int .i64 0) := cell_of_row w2 (B + 1) 0 _ _ _ hr
    have r1 : w2.cell? ⟨B + 1, 1, none⟩ = some (.int .i64 0) := cell_of_row w2 (B + 1) 1 _ _ _ hr
    have r2 : w2.cell? ⟨B + 1, 2, none⟩ = some (.slice none 0 0) := cell_of_row w2 (B + 1) 2 _ _ _ hr
    have f0 : w2.frozen? ⟨B + 1, 0, none⟩ = false := frozen_of_row w2 (B + 1) 0 _ _ hr
    have f1 : w2.frozen? ⟨B + 1, 1, none⟩ = false := frozen_of_row w2 (B + 1) 1 _ _ hr
    have f2 : w2.frozen? ⟨B + 1, 2, none⟩ = false := frozen_of_row w2 (B + 1) 2 _ _ hr
    have hbz := heap_lt hr
    clear hb2 hr HI HST
    go_wp2_with (first
      | (go_at_call 44; refine (isHeight_yes (by omega) (by omega) _).mono ?_; rintro e w' ⟨rfl, rfl⟩)
      | (go_at_call 44; refine (isHeight_no (by omega) _).mono ?_; rintro e w' ⟨rfl, rfl⟩))
    have k3 := set3 H2.out.hr (.int .i64 0) (.int .i64 0) (.slice none 0 0)
    have k4 := set3_below (g := B + 1) H2.out.below (Nat.le_succ _) (.int .i64 0) (.int .i64 0) (.slice none 0 0)
    clear r0 r1 r2 f0 f1 f2
    generalize World.setCell _ _ _ = w5 at k3 k4 ⊢
    have q0 := cell_of_row w5 (B + 1) 0 _ _ _ k3
    have q1 := cell_of_row w5 (B + 1) 1 _ _ _ k3
    have q2 := cell_of_row w5 (B + 1) 2 _ _ _ k3
    simp at q0 q1 q2
    refine bodyPost_ret (v := none3 1) (by simp [results, Try.results37, go_sem, q0, q1, q2]) rfl ⟨rfl, ?_⟩
    rw [← HBB.out]; exact k4

set_option maxRecDepth 20000 in
set_option maxHeartbeats 1600000 in
theorem level_none (W H : Nat) (ao : Option Addr) (n cap : Nat) (Z : Nat → Int) (hg : Good W H n Z) (to : Option Addr) (k capt : Nat) (hk : k ≤ 1000) (T : Nat → Int) (h : Int) (hh : 0 ≤ h ∧ h ≤ 15) (hf : ∃ i, i < k ∧ tileB W H (T i) = false) (f : Value) (w : World) (hI : Ints w ao n Z) (hT : Ints w to k T) :
    Calls Try.prog 37 #[lv W H (.slice ao n cap), .slice to k capt, .int .i64 h, f] w fun r w' => r = .returned (none3 2) ∧ Below w.heap.size w w' := by
  have hst := bx2_start w #[.int .i64 W, .int .i64 H, .slice ao n cap] #[.int .i64 0, .int .i64 0, .slice none 0 0]
  have HI := hid (hI.stays hst.below)
  have HST := hid hst
  have HTT := hid hT
  have HE := hid hg.err
  obtain ⟨hW1, hW2, hH1, hH2⟩ := hg.side
  have hlb := hg.shaped.bound
  have HF := hid hf
  obtain ⟨h1, h2⟩ := hh
  have hk2 : ¬ (1000 : Int) < (k : Int) := by omega
  clear hI hg hst hT hf
  go_enter Try.func37, Try.ntmps37
  go_wp2_with fail
  refine (validate_any W H ao n cap Z (by omega) _ HI.out 0 HE.out).mono ?_
  rintro r w2 ⟨rfl, hb2⟩
  have H2 := hid (HST.out.stays hb2)
  obtain ⟨B, hB⟩ : ∃ B, B = w.heap.size := ⟨_, rfl⟩
  have HBB := hid hB
  simp only [← hB] at H2 ⊢
  clear hB hb2 HI HST
  go_wp2_with (first
    | (go_at_call 44; refine (isHeight_yes (by omega) (by omega) _).mono ?_; rintro e w' ⟨rfl, rfl⟩)
    | fail)
  have HS0 := H2
  clear H2
  go_loopw [39] (fun iv wr => ∃ j : Nat, j ≤ k ∧ iv = .int .i64 j ∧ Hid (Bx2 B #[.int .i64 W, .int .i64 H, .slice ao n cap] #[.int .i64 0, .int .i64 0, .slice none 0 0] w wr) ∧ Hid (∀ i, i < j → tileB W H (T i) = true)) (fun iv _ => k - (intOf iv).toNat)
  case atStart => exact ⟨0, Nat.zero_le _, rfl, HS0, hid (fun i hi => absurd hi (Nat.not_lt_zero _))⟩
  case round =>
    obtain ⟨j, hj, rfl, H2, hA⟩ := hrel
    clear HS0
    by_cases hlt : j < k
    · obtain ⟨b, off, rfl, hbz0, hc⟩ := HTT.out j hlt
      have c := (H2.out.below.cell (p := ⟨b, off + j, none⟩) (by rw [HBB.out]; exact hbz0)).trans hc
      obtain ⟨t, ht⟩ : ∃ t, T j = t := ⟨_, rfl⟩
      rw [ht] at c
      have HTJ := hid ht
      have d0 : wr.cell? ⟨B, 0, none⟩ = some (.int .i64 W) := cell_of_row wr B 0 _ _ _ H2.out.hb
      have d1 : wr.cell? ⟨B, 1, none⟩ = some (.int .i64 H) := cell_of_row wr B 1 _ _ _ H2.out.hb
      have d2 : wr.cell? ⟨B, 2, none⟩ = some (.slice ao n cap) := cell_of_row wr B 2 _ _ _ H2.out.hb
      clear ht hc
      go_wp2_with fail
      refine (isTile_any W H hW2 hH2 _ t _).mono ?_
      cases hti : tileB W H t with
      | true =>
        rintro e w3 ⟨rfl, hw3⟩
        have HS3 := hid (H2.out.stays (Joins.below_alloc1 wr (.cells #[.int .i64 W, .int .i64 H, .slice ao n cap] 24)))
        rw [hw3] at HS3
        have HA2 : Hid (∀ i, i < j + 1 → tileB W H (T i) = true) := hid (fun i hi => by
          by_cases e : i = j
          · subst e; rw [HTJ.out]; exact hti
          · exact hA.out i (by omega))
        clear hw3 hti d0 d1 d2 c
        go_wp2_with fail
        go_roundw
        case rel => exact ⟨j + 1, by omega, by go_num, HS3, HA2⟩
        case measure => simp [intOf]; omega
      | false =>
        rintro e w3 ⟨rfl, hw3⟩
        have H3 := hid (H2.out.stays (Joins.below_alloc1 wr (.cells #[.int .i64 W, .int .i64 H, .slice ao n cap] 24)))
        rw [hw3] at H3
        clear hw3 hti d0 d1 d2 c H2
        have H2 := H3
        clear H3
        have hr := H2.out.hr
        have r0 : w3.cell? ⟨B + 1, 0, none⟩ = some (.int .i64 0) := cell_of_row w3 (B + 1) 0 _ _ _ hr
        have r1 : w3.cell? ⟨B + 1, 1, none⟩ = some (.int .i64 0) := cell_of_row w3 (B + 1) 1 _ _ _ hr
        have r2 : w3.cell? ⟨B + 1, 2, none⟩ = some (.slice none 0 0) := cell_of_row w3 (B + 1) 2 _ _ _ hr
        have f0 : w3.frozen? ⟨B + 1, 0, none⟩ = false := frozen_of_row w3 (B + 1) 0 _ _ hr
        have f1 : w3.frozen? ⟨B + 1, 1, none⟩ = false := frozen_of_row w3 (B + 1) 1 _ _ hr
        have f2 : w3.frozen? ⟨B + 1, 2, none⟩ = false := frozen_of_row w3 (B + 1) 2 _ _ hr
        have hbz := heap_lt hr
        clear hr
        go_wp2_with fail
        have k3 := set3 H2.out.hr (.int .i64 0) (.int .i64 0) (.slice none 0 0)
        have k4 := set3_below (g := B + 1) H2.out.below (Nat.le_succ _) (.int .i64 0) (.int .i64 0) (.slice none 0 0)
        clear r0 r1 r2 f0 f1 f2
        generalize World.setCell _ _ _ = w5 at k3 k4 ⊢
        have q0 := cell_of_row w5 (B + 1) 0 _ _ _ k3
        have q1 := cell_of_row w5 (B + 1) 1 _ _ _ k3
        have q2 := cell_of_row w5 (B + 1) 2 _ _ _ k3
        simp at q0 q1 q2
        refine bodyPost_ret (v := none3 2) (by simp [results, Try.results37, go_sem, q0, q1, q2]) rfl ⟨rfl, ?_⟩
        rw [← HBB.out]; exact k4
    · exfalso
      obtain ⟨i, hi, hf⟩ := HF.out
      rw [hA.out i (by omega)] at hf
      cases hf

set_option maxRecDepth 20000 in
set_option maxHeartbeats 1600000 in
theorem reflevel_bad (W H : Int) (ao : Option Addr) (n cap : Nat) (Z : Nat → Int) (hn : n ≤ 9223372036854775807) (to : Option Addr) (k capt : Nat) (h : Int) (f : Value) (w : World) (hI : Ints w ao n Z) (e : Int) (he : e ≠ 0) (hE : VErr W H n Z e) :
    Calls Try.prog 38 #[lv W H (.slice ao n cap), .slice to k capt, .int .i64 h, f] w fun r w' => r = .returned (none3 e) ∧ Below w.heap.size w w' := by
  have hst := bx2_start w #[.int .i64 W, .int .i64 H, .slice ao n cap] #[.int .i64 0, .int .i64 0, .slice none 0 0]
  have HI := hid (hI.stays hst.below)
  have HST := hid hst
  have HE := hid hE
  have g : (e != 0) = true := by simpa using he
  clear hI hE hst
  go_enter Try.func38, Try.ntmps38
  go_wp2_with fail
  refine (refvalidate_any W H ao n cap Z hn _ HI.out e HE.out).mono ?_
  rintro r w2 ⟨rfl, hb2⟩
  have H2 := hid (HST.out.stays hb2)
  obtain ⟨B, hB⟩ : ∃ B, B = w.heap.size := ⟨_, rfl⟩
  have HBB := hid hB
  simp only [← hB] at H2 ⊢
  clear hB
  have hr := H2.out.hr
  have r0 : w2.cell? ⟨B + 1, 0, none⟩ = some (.int .i64 0) := cell_of_row w2 (B + 1) 0 _ _ _ hr
  have r1 : w2.cell? ⟨B + 1, 1, none⟩ = some (.int .i64 0) := cell_of_row w2 (B + 1) 1 _ _ _ hr
  have r2 : w2.cell? ⟨B + 1, 2, none⟩ = some (.slice none 0 0) := cell_of_row w2 (B + 1) 2 _ _ _ hr
  have f0 : w2.frozen? ⟨B + 1, 0, none⟩ = false := frozen_of_row w2 (B + 1) 0 _ _ hr
  have f1 : w2.frozen? ⟨B + 1, 1, none⟩ = false := frozen_of_row w2 (B + 1) 1 _ _ hr
  have f2 : w2.frozen? ⟨B + 1, 2, none⟩ = false := frozen_of_row w2 (B + 1) 2 _ _ hr
  have hbz := heap_lt hr
  clear hb2 hr HI HST
  go_wp2_with fail
  have k3 := set3 H2.out.hr (.int .i64 0) (.int .i64 0) (.slice none 0 0)
  have k4 := set3_below (g := B + 1) H2.out.below (Nat.le_succ _) (.int .i64 0) (.int .i64 0) (.slice none 0 0)
  clear r0 r1 r2 f0 f1 f2
  generalize World.setCell _ _ _ = w5 at k3 k4 ⊢
  have q0 := cell_of_row w5 (B + 1) 0 _ _ _ k3
  have q1 := cell_of_row w5 (B + 1) 1 _ _ _ k3
  have q2 := cell_of_row w5 (B + 1) 2 _ _ _ k3
  simp at q0 q1 q2
  refine bodyPost_ret (v := none3 e) (by simp [results, Try.results38, go_sem, q0, q1, q2]) rfl ⟨rfl, ?_⟩
  rw [← HBB.out]; exact k4

set_option maxRecDepth 20000 in
set_option maxHeartbeats 1600000 in
theorem reflevel_arg (W H : Int) (ao : Option Addr) (n cap : Nat) (Z : Nat → Int) (hn : n ≤ 9223372036854775807) (to : Option Addr) (k capt : Nat) (hk : k ≤ 9223372036854775807) (h : Int) (f : Value) (w : World) (hI : Ints w ao n Z) (hV : Valid W H n Z) (ha : ¬ (0 ≤ h ∧ h ≤ 15) ∨ 1000 < k) :
    Calls Try.prog 38 #[lv W H (.slice ao n cap), .slice to k capt, .int .i64 h, f] w fun r w' => r = .returned (none3 1) ∧ Below w.heap.size w w' := by
  have hst := bx2_start w #[.int .i64 W, .int .i64 H, .slice ao n cap] #[.int .i64 0, .int .i64 0, .slice none 0 0]
  have HI := hid (hI.stays hst.below)
  have HST := hid hst
  have HE := hid hV.err
  have HA := hid ha
  clear hI hV hst ha
  have key : h < 0 ∨ (0 ≤ h ∧ 15 < h) ∨ (0 ≤ h ∧ h ≤ 15 ∧ 1000 < k) := by have := HA.out; omega
  rcases key with h1 | ⟨h1, h2⟩ | ⟨h1, h2, h3⟩
  all_goals
    go_enter Try.func38, Try.ntmps38
    go_wp2_with fail
    refine (refvalidate_any W H ao n cap Z hn _ HI.out 0 HE.out).mono ?_
    rintro r w2 ⟨rfl, hb2⟩
    have H2 := hid (HST.out.stays hb2)
    obtain ⟨B, hB⟩ : ∃ B, B = w.heap.size := ⟨_, rfl⟩
    have HBB := hid hB
    simp only [← hB] at H2 ⊢
    clear hB
    have hr := H2.out.hr
    have r0 : w2.cell? ⟨B + 1, 0, none⟩ = some (.int .i64 0) := cell_of_row w2 (B + 1) 0 _ _ _ hr
    have r1 : w2.cell? ⟨B + 1, 1, none⟩ = some (.int .i64 0) := cell_of_row w2 (B + 1) 1 _ _ _ hr
    have r2 : w2.cell? ⟨B + 1, 2, none⟩ = some (.slice none 0 0) := cell_of_row w2 (B + 1) 2 _ _ _ hr
    have f0 : w2.frozen? ⟨B + 1, 0, none⟩ = false := frozen_of_row w2 (B + 1) 0 _ _ hr
    have f1 : w2.frozen? ⟨B + 1, 1, none⟩ = false := frozen_of_row w2 (B + 1) 1 _ _ hr
    have f2 : w2.frozen? ⟨B + 1, 2, none⟩ = false := frozen_of_row w2 (B + 1) 2 _ _ hr
    have hbz := heap_lt hr
    clear hb2 hr HI HST
    go_wp2_with (first
      | (go_at_call 44; refine (isHeight_yes (by omega) (by omega) _).mono ?_; rintro e w' ⟨rfl, rfl⟩)
      | (go_at_call 44; refine (isHeight_no (by omega) _).mono ?_; rintro e w' ⟨rfl, rfl⟩))
    have k3 := set3 H2.out.hr (.int .i64 0) (.int .i64 0) (.slice none 0 0)
    have k4 := set3_below (g := B + 1) H2.out.below (Nat.le_succ _) (.int .i64 0) (.int .i64 0) (.slice none 0 0)
    clear r0 r1 r2 f0 f1 f2
    generalize World.setCell _ _ _ = w5 at k3 k4 ⊢
    have q0 := cell_of_row w5 (B + 1) 0 _ _ _ k3
    have q1 := cell_of_row w5 (B + 1) 1 _ _ _ k3
    have q2 := cell_of_row w5 (B + 1) 2 _ _ _ k3
    simp at q0 q1 q2
    refine bodyPost_ret (v := none3 1) (by simp [results, Try.results38, go_sem, q0, q1, q2]) rfl ⟨rfl, ?_⟩
    rw [← HBB.out]; exact k4

set_option maxRecDepth 20000 in
set_option maxHeartbeats 1600000 in
theorem reflevel_none (W H : Nat) (ao : Option Addr) (n cap : Nat) (Z : Nat → Int) (hg : Good W H n Z) (to : Option Addr) (k capt : Nat) (hk : k ≤ 1000) (T : Nat → Int) (h : Int) (hh : 0 ≤ h ∧ h ≤ 15) (hf : ∃ i, i < k ∧ tileB W H (T i) = false) (f : Value) (w : World) (hI : Ints w ao n Z) (hT : Ints w to k T) :
    Calls Try.prog 38 #[lv W H (.slice ao n cap), .slice to k capt, .int .i64 h, f] w fun r w' => r = .returned (none3 2) ∧ Below w.heap.size w w' := by
  have hst := bx2_start w #[.int .i64 W, .int .i64 H, .slice ao n cap] #[.int .i64 0, .int .i64 0, .slice none 0 0]
  have HI := hid (hI.stays hst.below)
  have HST := hid hst
  have HTT := hid hT
  have HE := hid hg.err
  obtain ⟨hW1, hW2, hH1, hH2⟩ := hg.side
  have hlb := hg.shaped.bound
  have HF := hid hf
  obtain ⟨h1, h2⟩ := hh
  have hk2 : ¬ (1000 : Int) < (k : Int) := by omega
  clear hI hg hst hT hf
  go_enter Try.func38, Try.ntmps38
  go_wp2_with fail
  refine (refvalidate_any W H ao n cap Z (by omega) _ HI.out 0 HE.out).mono ?_
  rintro r w2 ⟨rfl, hb2⟩
  have H2 := hid (HST.out.stays hb2)
  obtain ⟨B, hB⟩ : ∃ B, B = w.heap.size := ⟨_, rfl⟩
  have HBB := hid hB
  simp only [← hB] at H2 ⊢
  clear hB hb2 HI HST
  go_wp2_with (first
    | (go_at_call 44; refine (isHeight_yes (by omega) (by omega) _).mono ?_; rintro e w' ⟨rfl, rfl⟩)
    | fail)
  have HS0 := H2
  clear H2
  go_loopw [44] (fun iv wr => ∃ j : Nat, j ≤ k ∧ iv = .int .i64 j ∧ Hid (Bx2 B #[.int .i64 W, .int .i64 H, .slice ao n cap] #[.int .i64 0, .int .i64 0, .slice none 0 0] w wr) ∧ Hid (∀ i, i < j → tileB W H (T i) = true)) (fun iv _ => k - (intOf iv).toNat)
  case atStart => exact ⟨0, Nat.zero_le _, rfl, HS0, hid (fun i hi => absurd hi (Nat.not_lt_zero _))⟩
  case round =>
    obtain ⟨j, hj, rfl, H2, hA⟩ := hrel
    clear HS0
    by_cases hlt : j < k
    · obtain ⟨b, off, rfl, hbz0, hc⟩ := HTT.out j hlt
      have c := (H2.out.below.cell (p := ⟨b, off + j, none⟩) (by rw [HBB.out]; exact hbz0)).trans hc
      obtain ⟨t, ht⟩ : ∃ t, T j = t := ⟨_, rfl⟩
      rw [ht] at c
      have HTJ := hid ht
      have d0 : wr.cell? ⟨B, 0, none⟩ = some (.int .i64 W) := cell_of_row wr B 0 _ _ _ H2.out.hb
      have d1 : wr.cell? ⟨B, 1, none⟩ = some (.int .i64 H) := cell_of_row wr B 1 _ _ _ H2.out.hb
      have d2 : wr.cell? ⟨B, 2, none⟩ = some (.slice ao n cap) := cell_of_row wr B 2 _ _ _ H2.out.hb
      clear ht hc
      go_wp2_with fail
      refine (is_any W H hW2 hH2 _ t _).mono ?_
      cases hti : tileB W H t with
      | true =>
        rintro e w3 ⟨rfl, hw3⟩
        have HS3 := hid (H2.out.stays (Joins.below_alloc1 wr (.cells #[.int .i64 W, .int .i64 H, .slice ao n cap] 24)))
        rw [hw3] at HS3
        have HA2 : Hid (∀ i, i < j + 1 → tileB W H (T i) = true) := hid (fun i hi => by
          by_cases e : i = j
          · subst e; rw [HTJ.out]; exact hti
          · exact hA.out i (by omega))
        clear hw3 hti d0 d1 d2 c
        go_wp2_with fail
        go_roundw
        case rel => exact ⟨j + 1, by omega, by go_num, HS3, HA2⟩
        case measure => simp [intOf]; omega
      | false =>
        rintro e w3 ⟨rfl, hw3⟩
        have H3 := hid (H2.out.stays (Joins.below_alloc1 wr (.cells #[.int .i64 W, .int .i64 H, .slice ao n cap] 24)))
        rw [hw3] at H3
        clear hw3 hti d0 d1 d2 c H2
        have H2 := H3
        clear H3
        have hr := H2.out.hr
        have r0 : w3.cell? ⟨B + 1, 0, none⟩ = some (.int .i64 0) := cell_of_row w3 (B + 1) 0 _ _ _ hr
        have r1 : w3.cell? ⟨B + 1, 1, none⟩ = some (.int .i64 0) := cell_of_row w3 (B + 1) 1 _ _ _ hr
        have r2 : w3.cell? ⟨B + 1, 2, none⟩ = some (.slice none 0 0) := cell_of_row w3 (B + 1) 2 _ _ _ hr
        have f0 : w3.frozen? ⟨B + 1, 0, none⟩ = false := frozen_of_row w3 (B + 1) 0 _ _ hr
        have f1 : w3.frozen? ⟨B + 1, 1, none⟩ = false := frozen_of_row w3 (B + 1) 1 _ _ hr
        have f2 : w3.frozen? ⟨B + 1, 2, none⟩ = false := frozen_of_row w3 (B + 1) 2 _ _ hr
        have hbz := heap_lt hr
        clear hr
        go_wp2_with fail
        have k3 := set3 H2.out.hr (.int .i64 0) (.int .i64 0) (.slice none 0 0)
        have k4 := set3_below (g := B + 1) H2.out.below (Nat.le_succ _) (.int .i64 0) (.int .i64 0) (.slice none 0 0)
        clear r0 r1 r2 f0 f1 f2
        generalize World.setCell _ _ _ = w5 at k3 k4 ⊢
        have q0 := cell_of_row w5 (B + 1) 0 _ _ _ k3
        have q1 := cell_of_row w5 (B + 1) 1 _ _ _ k3
        have q2 := cell_of_row w5 (B + 1) 2 _ _ _ k3
        simp at q0 q1 q2
        refine bodyPost_ret (v := none3 2) (by simp [results, Try.results38, go_sem, q0, q1, q2]) rfl ⟨rfl, ?_⟩
        rw [← HBB.out]; exact k4
    · exfalso
      obtain ⟨i, hi, hf⟩ := HF.out
      rw [hA.out i (by omega)] at hf
      cases hf
end Go.Proofs.Ytngamphkehppfaa
