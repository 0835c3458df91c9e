/-
  The walks of the laws on dates and days.
-/
import Derived.Test.YtadpgndodbfciaaDoorLawOrder
import Derived.Test.YtadpgndodbfciaaDoorWalkRefDay
namespace Go.Proofs.YtadpgndodbfciaaDoor
open Go.RowKit

set_option maxHeartbeats 1600000 in
theorem walk_dates (a : Int) (w : World) (hT : Tab w) : Calls Tryd.prog 9 #[.int .i64 a] w fun e w' => e = .returned (.bool true) ∧ Below w.heap.size w w' := by
  by_cases ha : 0 ≤ a ∧ a ≤ 100000
  · go_enter Tryd.func9, Tryd.ntmps9
    go_wp2_with fail
    refine (refdate_yes a ha.1 ha.2 w).mono ?_
    rintro e w1 ⟨y, m, d, hok, hn, rfl, hb1⟩
    have HN := hid hn
    clear hn
    go_wp2_with fail
    refine (date_yes a ha.1 ha.2 _ (hT.stays (add hb1 _))).mono ?_
    rintro e w2 ⟨y', m', d', hok', hn', rfl, hb2⟩
    obtain ⟨rfl, rfl, rfl⟩ := Cal.num_inj hok hok' (HN.out.trans hn'.symm)
    clear hn' hok'
    have hyear := Cal.year_le hok (by rw [HN.out]; exact ha.2)
    have HV := hid (Cal.dayV_f (show ¬ 100000 < Cal.num y m d by rw [HN.out]; omega))
    obtain ⟨hz2, hc2, hb2'⟩ := after hb2
    have HB2 := hid (step hb1 hb2')
    have hT3 := hT.stays (add HB2.out (.cells #[.int .i64 y, .int .i64 m, .int .i64 d] 47))
    clear hb2 hb2' hT hb1
    go_wp2_with fail
    refine (day_yes y m d hok hyear _ hT3).mono ?_
    rintro e w3 ⟨rfl, hb3⟩
    rw [HV.out.1, HV.out.2, HN.out]
    have HB3 := hid (step (add HB2.out (.cells #[.int .i64 y, .int .i64 m, .int .i64 d] 47)) hb3)
    have hT4 := Tab.stays hT3 hb3
    clear hb3 hT3 hok hyear
    go_wp2_with fail
    refine (known_any _ hT4).mono ?_
    rintro e w4 ⟨rfl, hb4⟩
    go_wp2
    go_ret
    exact ⟨rfl, step HB3.out hb4⟩
  · go_enter Tryd.func9, Tryd.ntmps9
    go_wp2_with fail
    refine (refdate_no a (by omega) w).mono ?_
    rintro e w1 ⟨rfl, hb1⟩
    go_wp2_with fail
    refine (date_no a (by omega) _).mono ?_
    rintro e w2 ⟨rfl, hb2⟩
    obtain ⟨hz2, hc2, hb2'⟩ := after hb2
    have HB2 := hid (step hb1 hb2')
    have hT3 := hT.stays (add HB2.out (.cells #[.int .i64 0, .int .i64 0, .int .i64 0] 47))
    clear hb2 hb2' hT hb1
    go_wp2_with fail
    refine (day_no 0 0 0 (by unfold Cal.ok; omega) _ hT3).mono ?_
    rintro e w3 ⟨rfl, hb3⟩
    have HB3 := hid (step (add HB2.out (.cells #[.int .i64 0, .int .i64 0, .int .i64 0] 47)) hb3)
    have hT4 := Tab.stays hT3 hb3
    clear hb3 hT3
    go_wp2_with fail
    refine (known_any _ hT4).mono ?_
    rintro e w4 ⟨rfl, hb4⟩
    go_wp2
    go_ret
    exact ⟨rfl, step HB3.out hb4⟩

set_option maxHeartbeats 1600000 in
theorem walk_days (y m d : Int) (w : World) (hT : Tab w) : Calls Tryd.prog 10 #[.agg #[.int .i64 y, .int .i64 m, .int .i64 d]] w fun e w' => e = .returned (.bool true) ∧ Below w.heap.size w w' := by
  by_cases hd : Cal.ok y m d ∧ y ≤ 2173
  · obtain ⟨hok, hy⟩ := hd
    go_enter Tryd.func10, Tryd.ntmps10
    go_wp2_with fail
    refine (refday_yes y m d hok hy _).mono ?_
    rintro e w1 ⟨rfl, hb1⟩
    obtain ⟨hz1, hc1, hb1'⟩ := after hb1
    have hT1 := hT.stays hb1'
    have e0 : ∀ i, w1.cell? ⟨w.heap.size, i, none⟩ = #[.int .i64 y, .int .i64 m, .int .i64 d][i]? := hc1
    have HB1 := hid hb1'
    have HE := hid e0
    clear hb1 hb1' hc1 hT
    have c0 : w1.cell? ⟨w.heap.size, 0, none⟩ = some (.int .i64 y) := e0 0
    have c1 : w1.cell? ⟨w.heap.size, 1, none⟩ = some (.int .i64 m) := e0 1
    have c2 : w1.cell? ⟨w.heap.size, 2, none⟩ = some (.int .i64 d) := e0 2
    clear e0
    go_wp2_with fail
    refine (day_yes y m d hok hy _ hT1).mono ?_
    rintro e w2 ⟨rfl, hb2⟩
    have hT2 := hT1.stays hb2
    have HB2 := hid (step HB1.out hb2)
    have hz2 : w.heap.size < w2.heap.size := by have := hb2.size; omega
    have d0 : w2.cell? ⟨w.heap.size, 0, none⟩ = some (.int .i64 y) := (hb2.cell (p := ⟨w.heap.size, 0, none⟩) hz1).trans c0
    have d1 : w2.cell? ⟨w.heap.size, 1, none⟩ = some (.int .i64 m) := (hb2.cell (p := ⟨w.heap.size, 1, none⟩) hz1).trans c1
    have d2 : w2.cell? ⟨w.heap.size, 2, none⟩ = some (.int .i64 d) := (hb2.cell (p := ⟨w.heap.size, 2, none⟩) hz1).trans c2
    clear hb2 c0 c1 c2 hz1
    go_wp2_with fail
    by_cases hn : 100000 < Cal.num y m d
    · rw [(Cal.dayV_t hn).1, (Cal.dayV_t hn).2]
      refine (date_yes 0 (by omega) (by omega) _ hT2).mono ?_
      rintro e w3 ⟨y', m', d', hok', hn', rfl, hb3⟩
      have hT3 := Tab.stays hT2 hb3
      have HB3 := hid (step HB2.out hb3)
      have hT4 := hT3.stays (Joins.below_alloc1 _ (.cells #[.int .i64 y', .int .i64 m', .int .i64 d'] 47))
      clear hb3 hok' hn' hn hok hT1 hT2 hT3
      go_wp2_with fail
      refine (known_any _ hT4).mono ?_
      rintro e w4 ⟨rfl, hb4⟩
      go_wp2
      go_ret
      exact ⟨rfl, step (add HB3.out _) hb4⟩
    · have hge := Cal.num_ge hok
      rw [(Cal.dayV_f hn).1, (Cal.dayV_f hn).2]
      refine (date_yes (Cal.num y m d) hge (by omega) _ hT2).mono ?_
      rintro e w3 ⟨y', m', d', hok', hn', rfl, hb3⟩
      obtain ⟨rfl, rfl, rfl⟩ := Cal.num_inj hok' hok hn'
      have hT3 := Tab.stays hT2 hb3
      have HB3 := hid (step HB2.out hb3)
      have hz3 : w.heap.size < w3.heap.size := by have := hb3.size; omega
      have f0 : w3.cell? ⟨w.heap.size, 0, none⟩ = some (.int .i64 y') := (hb3.cell (p := ⟨w.heap.size, 0, none⟩) hz2).trans d0
      have f1 : w3.cell? ⟨w.heap.size, 1, none⟩ = some (.int .i64 m') := (hb3.cell (p := ⟨w.heap.size, 1, none⟩) hz2).trans d1
      have f2 : w3.cell? ⟨w.heap.size, 2, none⟩ = some (.int .i64 d') := (hb3.cell (p := ⟨w.heap.size, 2, none⟩) hz2).trans d2
      have hT4 := hT3.stays (Joins.below_alloc1 _ (.cells #[.int .i64 y', .int .i64 m', .int .i64 d'] 47))
      clear hb3 hok' hn' hn hok hT1 hT2 hT3 d0 d1 d2 hz2 hge
      go_wp2_with fail
      refine (known_any _ hT4).mono ?_
      rintro e w4 ⟨rfl, hb4⟩
      go_wp2
      go_ret
      exact ⟨rfl, step (add HB3.out _) hb4⟩
  · go_enter Tryd.func10, Tryd.ntmps10
    go_wp2_with fail
    refine (refday_no y m d hd _).mono ?_
    rintro e w1 ⟨rfl, hb1⟩
    obtain ⟨hz1, hc1, hb1'⟩ := after hb1
    have hT1 := hT.stays hb1'
    have HB1 := hid hb1'
    have c0 : w1.cell? ⟨w.heap.size, 0, none⟩ = some (.int .i64 y) := hc1 0
    have c1 : w1.cell? ⟨w.heap.size, 1, none⟩ = some (.int .i64 m) := hc1 1
    have c2 : w1.cell? ⟨w.heap.size, 2, none⟩ = some (.int .i64 d) := hc1 2
    clear hb1 hb1' hc1 hT
    go_wp2_with fail
    refine (day_no y m d hd _ hT1).mono ?_
    rintro e w2 ⟨rfl, hb2⟩
    have hT2 := hT1.stays hb2
    have HB2 := hid (step HB1.out hb2)
    clear hb2 c0 c1 c2 hz1 hd hT1
    go_wp2_with fail
    refine (date_yes 0 (by omega) (by omega) _ hT2).mono ?_
    rintro e w3 ⟨y', m', d', hok', hn', rfl, hb3⟩
    have hT3 := Tab.stays hT2 hb3
    have HB3 := hid (step HB2.out hb3)
    have hT4 := hT3.stays (Joins.below_alloc1 _ (.cells #[.int .i64 y', .int .i64 m', .int .i64 d'] 47))
    clear hb3 hok' hn' hT2 hT3
    go_wp2_with fail
    refine (known_any _ hT4).mono ?_
    rintro e w4 ⟨rfl, hb4⟩
    go_wp2
    go_ret
    exact ⟨rfl, step (add HB3.out _) hb4⟩
end Go.Proofs.YtadpgndodbfciaaDoor
