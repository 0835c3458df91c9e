/-
  The walk of the law RouteValidates.
-/
import Derived.Test.YtokpdjdpeaccbaaGRVal
namespace Go.Proofs.Ytokpdjdpeaccbaa
open Go.RowKit

theorem large_nil (m ec : Nat) (eo : Option Addr) (b : Bool) (h : decide (5000 < m) = b) (w : World) : Calls Try.prog 16 #[.slice eo m ec, .slice none 0 0] w fun e w' => e = .returned (.bool b) ∧ Below w.heap.size w w' :=
  (large_any m ec 0 0 eo none (fun _ => none) (fun _ => 0) (fun _ => 0) (by omega) w (fun j hj => by omega)).mono fun e w' hp => ⟨hp.1.trans (by rw [← h]; rfl), hp.2⟩
set_option maxRecDepth 100000 in
set_option maxHeartbeats 3200000 in
theorem walk_validates (n : Int) (eo : Option Addr) (m ec : Nat) (E : Nat → Ed) (w : World) (hEd : Eds w eo m E) :
    Calls Try.prog 3 #[.int .i64 n, .slice eo m ec] w fun e w' => e = .returned (.bool true) ∧ Below w.heap.size w w' := by
  obtain ⟨B, hB⟩ : ∃ B, w.heap.size = B := ⟨_, rfl⟩
  have HBW := hid hB
  by_cases hm : 5000 < m
  · have H := hid (decide_eq_true hm)
    rw [hB]
    clear hB hm hEd
    go_enter Try.func3, Try.ntmps3
    go_wp2_with fail
    refine (large_nil m ec eo true H.out w).mono ?_
    rintro e w2 ⟨rfl, hb2⟩
    rw [HBW.out] at hb2
    have HB2 := hid hb2
    clear hb2
    go_wp2_with fail
    refine (known_any w2).mono ?_
    rintro e w3 ⟨rfl, hb3⟩
    have HB3 := hid (HB2.out.trans (hb3.mono (by rw [← HBW.out]; exact HB2.out.size)))
    clear hb3
    go_wp2_with fail
    go_ret
    exact ⟨rfl, HB3.out⟩
  · have H := hid (decide_eq_false hm)
    have HEd : Hid (∀ wr, Below B w wr → Eds wr eo m E) := hid (fun wr hb => hEd.stays (by rw [hB]; exact hb))
    have hm' : m ≤ 1000000 := by omega
    rw [hB]
    clear hB hm hEd
    go_enter Try.func3, Try.ntmps3
    go_wp2_with fail
    refine (large_nil m ec eo false H.out w).mono ?_
    rintro e w2 ⟨rfl, hb2⟩
    rw [HBW.out] at hb2
    have HB2 := hid hb2
    clear hb2
    go_wp2_with fail
    refine (validate_any n eo m ec E hm' w2 (HEd.out w2 HB2.out)).mono ?_
    rintro e w3 ⟨rfl, hb3⟩
    have HB3 := hid (HB2.out.trans (hb3.mono (by rw [← HBW.out]; exact HB2.out.size)))
    clear hb3
    go_wp2_with fail
    refine (rval_any n eo m ec E w3 (HEd.out w3 HB3.out)).mono ?_
    rintro e w4 ⟨rfl, hb4⟩
    have HB4 := hid (HB3.out.trans (hb4.mono (by rw [← HBW.out]; exact HB3.out.size)))
    clear hb4
    go_wp2_with fail
    refine (known_any w4).mono ?_
    rintro e w5 ⟨rfl, hb5⟩
    have HB5 := hid (HB4.out.trans (hb5.mono (by rw [← HBW.out]; exact HB4.out.size)))
    clear hb5
    go_wp2_with fail
    go_ret
    exact ⟨rfl, HB5.out⟩
end Go.Proofs.Ytokpdjdpeaccbaa
