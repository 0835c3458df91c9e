/-
  The walk of the law on what ends with a day.
-/
import Derived.Test.YtadpgndodbfciaaDoorLawOrder
import Derived.Test.YtadpgndodbfciaaDoorWalkEnds
namespace Go.Proofs.YtadpgndodbfciaaDoor
open Go.RowKit

/-- What ends with a day, by the next day's date. -/
theorem ends_next {y m d y' m' d' : Int} (h : Cal.ok y m d) (h' : Cal.ok y' m' d') (e : Cal.num y' m' d' = Cal.num y m d + 1) :
    (d' ≠ 1 ∧ endsOf y m d = 0) ∨ (d' = 1 ∧ m' % 3 ≠ 1 ∧ m' ≠ 1 ∧ endsOf y m d = 1) ∨ (d' = 1 ∧ m' % 3 = 1 ∧ m' ≠ 1 ∧ endsOf y m d = 2) ∨ (d' = 1 ∧ m' % 3 = 1 ∧ m' = 1 ∧ endsOf y m d = 3) := by
  have hd := h.2.2.2
  have hm := h.2
  by_cases h1 : d < Cal.ml y m
  · obtain ⟨k, e1⟩ := Cal.next_in h h1
    obtain ⟨_, _, rfl⟩ := Cal.num_inj h' k (e.trans e1.symm)
    exact Or.inl ⟨by omega, endsOf_0 h1⟩
  · have hle : Cal.ml y m ≤ d := by omega
    by_cases h2 : m = 12
    · obtain ⟨k, e1⟩ := Cal.next_year h (by omega) h2
      obtain ⟨_, rfl, rfl⟩ := Cal.num_inj h' k (e.trans e1.symm)
      exact Or.inr (Or.inr (Or.inr ⟨rfl, by decide, rfl, endsOf_3 hle h2⟩))
    · obtain ⟨k, e1⟩ := Cal.next_month h (by omega) (by omega)
      obtain ⟨_, rfl, rfl⟩ := Cal.num_inj h' k (e.trans e1.symm)
      by_cases h3 : m = 3 ∨ m = 6 ∨ m = 9
      · exact Or.inr (Or.inr (Or.inl ⟨rfl, by omega, by omega, endsOf_2 hle h3⟩))
      · exact Or.inr (Or.inl ⟨rfl, by omega, by omega, endsOf_1 hle h2 h3⟩)

set_option maxHeartbeats 1600000 in
theorem walk_ends (a : Int) (w : World) (hT : Tab w) : Calls Tryd.prog 11 #[.int .i64 a] w fun e w' => e = .returned (.bool true) ∧ Below w.heap.size w w' := by
  by_cases ha : 0 ≤ a ∧ a ≤ 100000
  · go_enter Tryd.func11, Tryd.ntmps11
    go_wp2_with fail
    refine (refends_yes a ha.1 ha.2 w).mono ?_
    rintro e w1 ⟨y, m, d, hok, hn, rfl, hb1⟩
    have HN := hid hn
    clear hn
    go_wp2_with fail
    refine (ends_yes a ha.1 ha.2 _ (hT.stays hb1)).mono ?_
    rintro e w2 ⟨y', m', d', hok', hn', rfl, hb2⟩
    obtain ⟨rfl, rfl, rfl⟩ := Cal.num_inj hok hok' (HN.out.trans hn'.symm)
    clear hn' hok'
    have HB2 := hid (step hb1 hb2)
    have hT2 := hT.stays HB2.out
    clear hb2 hT hb1
    by_cases hl : a = 100000
    · go_wp2_with fail
      refine (known_any _ hT2).mono ?_
      rintro e w4 ⟨rfl, hb4⟩
      go_wp2
      go_ret
      exact ⟨rfl, step HB2.out hb4⟩
    · go_wp2_with fail
      refine (date_yes (a + 1) (by omega) (by omega) _ hT2).mono ?_
      rintro e w3 ⟨y', m', d', hok', hn', rfl, hb3⟩
      have key := ends_next hok hok' (by rw [hn', HN.out])
      have HB3 := hid (step HB2.out hb3)
      have hT3 := Tab.stays hT2 hb3
      have hT4 : Hid (∀ o, Tab (w3.alloc o)) := hid (fun o => hT3.stays (Joins.below_alloc1 _ o))
      obtain ⟨_, hm1, hm2, _, _⟩ := hok'
      clear hn' hb3 hT2 hT3 hok HN
      rcases key with ⟨k1, ke⟩ | ⟨k1, k2, k3, ke⟩ | ⟨k1, k2, k3, ke⟩ | ⟨k1, k2, k3, ke⟩
      all_goals
        rw [ke]
        clear ke
        go_wp2_with fail
        refine (known_any _ (hT4.out _)).mono ?_
        rintro e w4 ⟨rfl, hb4⟩
        go_wp2
        go_ret
        exact ⟨rfl, step (add HB3.out _) hb4⟩
  · go_enter Tryd.func11, Tryd.ntmps11
    go_wp2_with fail
    refine (refends_no a (by omega) w).mono ?_
    rintro e w1 ⟨rfl, hb1⟩
    go_wp2_with fail
    refine (ends_no a (by omega) _).mono ?_
    rintro e w2 ⟨rfl, hb2⟩
    have HB2 := hid (step hb1 hb2)
    have hT2 := hT.stays HB2.out
    clear hb2 hT hb1
    go_wp2_with fail
    refine (known_any _ hT2).mono ?_
    rintro e w4 ⟨rfl, hb4⟩
    go_wp2
    go_ret
    exact ⟨rfl, step HB2.out hb4⟩
end Go.Proofs.YtadpgndodbfciaaDoor
