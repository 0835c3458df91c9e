/-
  The walk of the law on the order of dates.
-/
import Derived.Test.YtadpgndodbfciaaDoorWalkDate
namespace Go.Proofs.YtadpgndodbfciaaDoor
open Go.RowKit

set_option maxHeartbeats 400000 in
theorem known_any (w : World) (hT : Tab w) : Calls Tryd.prog 13 #[] w fun e w' => e = .returned (.bool true) ∧ Below w.heap.size w w' := by
  go_enter Tryd.func13, Tryd.ntmps13
  go_wp2_with fail
  refine (date_yes 0 (by omega) (by omega) w hT).mono ?_
  rintro e w1 ⟨y, m, d, hok, hn, rfl, hb⟩
  obtain ⟨rfl, rfl, rfl⟩ := Cal.num_inj hok (show Cal.ok 1900 1 1 from ⟨by decide, by decide, by decide, by decide, by decide⟩) (hn.trans (by decide))
  clear hn hok
  go_wp2
  go_ret
  exact ⟨rfl, hb.alloc hb.size _⟩

/-- How two dates lie: by their numbers. -/
theorem three {y m d y' m' d' a b : Int} (h : Cal.ok y m d) (h' : Cal.ok y' m' d') (e : Cal.num y m d = a) (e' : Cal.num y' m' d' = b) :
    (a < b ∧ (y < y' ∨ (y = y' ∧ m < m') ∨ (y = y' ∧ m = m' ∧ d < d'))) ∨ (a = b ∧ y = y' ∧ m = m' ∧ d = d') ∨ (b < a ∧ (y' < y ∨ (y = y' ∧ m' < m) ∨ (y = y' ∧ m = m' ∧ d' < d))) := by
  subst e e'
  have k := Cal.less_iff h h'
  have k' := Cal.less_iff h' h
  by_cases hl : Cal.num y m d < Cal.num y' m' d'
  · left; exact ⟨hl, by have := k.2 hl; omega⟩
  · by_cases hl' : Cal.num y' m' d' < Cal.num y m d
    · right; right; exact ⟨hl', by have := k'.2 hl'; omega⟩
    · right; left
      have e : Cal.num y m d = Cal.num y' m' d' := by omega
      exact ⟨e, Cal.num_inj h h' e⟩

set_option maxHeartbeats 1600000 in
theorem walk_order (a b : Int) (w : World) (hT : Tab w) : Calls Tryd.prog 12 #[.int .i64 a, .int .i64 b] w fun e w' => e = .returned (.bool true) ∧ Below w.heap.size w w' := by
  by_cases ha : 0 ≤ a ∧ a ≤ 100000
  · by_cases hb : 0 ≤ b ∧ b ≤ 100000
    · go_enter Tryd.func12, Tryd.ntmps12
      go_wp2_with fail
      refine (date_yes a ha.1 ha.2 w hT).mono ?_
      rintro e w1 ⟨y, m, d, hok, hn, rfl, hb1⟩
      have HN := hid hn
      clear hn
      go_wp2_with fail
      refine (date_yes b hb.1 hb.2 _ (hT.stays (add hb1 _))).mono ?_
      rintro e w2 ⟨y', m', d', hok', hn', rfl, hb2⟩
      have key := three hok hok' HN.out hn'
      clear hn' HN hok hok'
      obtain ⟨hz2, hc2, hb2'⟩ := after hb2
      have HB2 := hid (step hb1 hb2')
      have hT3 := hT.stays (add HB2.out (.cells #[.int .i64 y', .int .i64 m', .int .i64 d'] 47))
      clear hb2 hb2' hT ha hb
      rcases key with ⟨hl, hl' | ⟨rfl, hl'⟩ | ⟨rfl, rfl, hl'⟩⟩ | ⟨rfl, rfl, rfl, rfl⟩ | ⟨hl, hl' | ⟨rfl, hl'⟩ | ⟨rfl, rfl, hl'⟩⟩
      all_goals
        go_wp2_with (go_at_call 13; refine (known_any _ hT3).mono ?_; rintro e w3 ⟨rfl, hb3⟩)
        go_ret
        refine ⟨?_, step (add HB2.out _) (by assumption)⟩
        first | exact rfl | exact ret_bool (by simp; omega)
    · go_enter Tryd.func12, Tryd.ntmps12
      go_wp2_with fail
      refine (date_yes a ha.1 ha.2 w hT).mono ?_
      rintro e w1 ⟨y, m, d, hok, hn, rfl, hb1⟩
      clear hn hok
      go_wp2_with fail
      refine (date_no b (by omega) _).mono ?_
      rintro e w2 ⟨rfl, hb2⟩
      obtain ⟨hz2, hc2, hb2'⟩ := after hb2
      have HB2 := hid (step hb1 hb2')
      have hT3 := hT.stays (add HB2.out (.cells #[.int .i64 0, .int .i64 0, .int .i64 0] 47))
      clear hb2 hb2' hT ha hb
      go_wp2_with (go_at_call 13; refine (known_any _ hT3).mono ?_; rintro e w3 ⟨rfl, hb3⟩)
      go_ret
      exact ⟨rfl, step (add HB2.out _) (by assumption)⟩
  · go_enter Tryd.func12, Tryd.ntmps12
    go_wp2_with fail
    refine (date_no a (by omega) w).mono ?_
    rintro e w1 ⟨rfl, hb1⟩
    have hT1 := hT.stays (add hb1 (.cells #[.int .i64 0, .int .i64 0, .int .i64 0] 47))
    go_wp2_with fail
    by_cases hb : 0 ≤ b ∧ b ≤ 100000
    · refine (date_yes b hb.1 hb.2 _ hT1).mono ?_
      rintro e w2 ⟨y', m', d', hok', hn', rfl, hb2⟩
      clear hok' hn'
      obtain ⟨hz2, hc2, hb2'⟩ := after hb2
      have HB2 := hid (step hb1 hb2')
      have hT3 := hT.stays (add HB2.out (.cells #[.int .i64 y', .int .i64 m', .int .i64 d'] 47))
      clear hb2 hb2' hT ha hb hT1
      go_wp2_with (go_at_call 13; refine (known_any _ hT3).mono ?_; rintro e w3 ⟨rfl, hb3⟩)
      go_ret
      exact ⟨rfl, step (add HB2.out _) (by assumption)⟩
    · refine (date_no b (by omega) _).mono ?_
      rintro e w2 ⟨rfl, hb2⟩
      obtain ⟨hz2, hc2, hb2'⟩ := after hb2
      have HB2 := hid (step hb1 hb2')
      have hT3 := hT.stays (add HB2.out (.cells #[.int .i64 0, .int .i64 0, .int .i64 0] 47))
      clear hb2 hb2' hT ha hb hT1
      go_wp2_with (go_at_call 13; refine (known_any _ hT3).mono ?_; rintro e w3 ⟨rfl, hb3⟩)
      go_ret
      exact ⟨rfl, step (add HB2.out _) (by assumption)⟩
end Go.Proofs.YtadpgndodbfciaaDoor
