/-
  The walks of the streams' functions: Skip, Next, At, New, of the program and of the reference.
-/
import Derived.Test.YtadpgndodbfciaaDoorWalkCal
import Derived.Test.YtadpgndodbfciaaDoorMix
import Derived.ChangeAlike
import Derived.RegionTactic
namespace Go.Proofs.YtadpgndodbfciaaDoor
open Go.RowKit

set_option maxHeartbeats 400000 in
theorem skip_any (a n : Int) (w : World) :
    Calls Tryd.prog 19 #[.agg #[.int .u64 a], .int .i64 n] w fun e w' => e = .returned (.agg #[.int .u64 (skipTo a n)]) ∧ Below w.heap.size w w' := by
  go_enter Tryd.func19, Tryd.ntmps19
  go_wp2
  exact bodyPost_ret (v := .agg #[.int .u64 (IntKind.u64.wrap (a + IntKind.u64.wrap (IntKind.u64.wrap n * 11400714819323198485)))]) (by simp [results, Tryd.results19, go_sem]) rfl ⟨rfl, Joins.below_alloc2 _ _ _⟩

set_option maxHeartbeats 400000 in
theorem refskip_any (a n : Int) (w : World) :
    Calls Tryd.prog 18 #[.agg #[.int .u64 a], .int .i64 n] w fun e w' => e = .returned (.agg #[.int .u64 (skipTo a n)]) ∧ Below w.heap.size w w' := by
  go_enter Tryd.func18, Tryd.ntmps18
  go_wp2
  exact bodyPost_ret (v := .agg #[.int .u64 (IntKind.u64.wrap (a + IntKind.u64.wrap (IntKind.u64.wrap n * 11400714819323198485)))]) (by simp [results, Tryd.results18, go_sem]) rfl ⟨rfl, Joins.below_alloc2 _ _ _⟩

set_option maxHeartbeats 400000 in
theorem at_any (a n : Int) (w : World) :
    Calls Tryd.prog 17 #[.agg #[.int .u64 a], .int .u64 n] w fun e w' => e = .returned (.int .u64 (mix (md (a + md (n * stride))))) ∧ Below w.heap.size w w' := by
  go_enter Tryd.func17, Tryd.ntmps17
  go_wp2
  go_ret
  exact ⟨rfl, Joins.below_alloc1 _ _⟩

set_option maxHeartbeats 800000 in
theorem next_any (a : Int) (w : World) :
    Calls Tryd.prog 16 #[.agg #[.int .u64 a]] w fun e w' => e = .returned (.tuple #[.int .u64 (mix (md (a + stride))), .agg #[.int .u64 (md (a + stride))]]) ∧ Below w.heap.size w w' := by
  go_enter Tryd.func16, Tryd.ntmps16
  go_wp2
  go_region
  go_wp2
  refine bodyPost_ret (v := .tuple #[.int .u64 (mix (md (a + stride))), .agg #[.int .u64 (md (a + stride))]]) ?_ rfl ⟨rfl, (Joins.below_alloc2 _ _ _).drew⟩
  simp [results, Tryd.results16, go_sem]
  exact ⟨rfl, rfl⟩

/-- The hash of a name from a seed on. -/
def hashTo (a : Int) : List UInt8 → Int
  | [] => a
  | c :: l => hashTo (IntKind.u64.wrap (bits .xor .u64 a (IntKind.u64.wrap (c.toNat : Int)) * 1099511628211)) l
theorem hashTo_snoc (a : Int) (l : List UInt8) (c : UInt8) : hashTo a (l ++ [c]) = IntKind.u64.wrap (bits .xor .u64 (hashTo a l) (IntKind.u64.wrap (c.toNat : Int)) * 1099511628211) := by
  induction l generalizing a with
  | nil => rfl
  | cons x l ih => exact ih _
theorem hash_bd (l : List UInt8) : ∀ a : Int, 0 ≤ a → a < 18446744073709551616 → 0 ≤ hashTo a l ∧ hashTo a l < 18446744073709551616 := by
  induction l with
  | nil => exact fun a h h' => ⟨h, h'⟩
  | cons x l ih => exact fun a _ _ => ih _ (wrap_bd _).1 (wrap_bd _).2
theorem take_snoc (s : ByteArray) (k : Nat) (h : k < s.size) : s.data.toList.take (k + 1) = s.data.toList.take k ++ [s[k]] := by
  rw [List.take_succ_eq_append_getElem (by simpa using h)]; rfl

set_option maxHeartbeats 800000 in
theorem new_any (a : Int) (s : ByteArray) (hs : s.size ≤ maxLen) (w : World) :
    Calls Tryd.prog 14 #[.int .u64 a, .string s] w fun e w' => e = .returned (.agg #[.int .u64 (hashTo a s.data.toList)]) ∧ Below w.heap.size w w' := by
  unfold maxLen at hs
  go_enter Tryd.func14, Tryd.ntmps14
  go_wp2
  go_loop [5, 10] (fun t i => ∃ k : Nat, k ≤ s.size ∧ i = .int .i64 k ∧ t = .int .u64 (hashTo a (s.data.toList.take k))) (fun _ i => s.size - (intOf i).toNat)
  case atStart => exact ⟨0, Nat.zero_le _, rfl, rfl⟩
  case round =>
    obtain ⟨k, hk, rfl, rfl⟩ := hrel
    by_cases hlt : k < s.size
    · have HS : Hid (hashTo a (s.data.toList.take (k + 1)) = IntKind.u64.wrap (bits .xor .u64 (hashTo a (s.data.toList.take k)) (IntKind.u64.wrap (s[k].toNat : Int)) * 1099511628211)) := hid (by rw [take_snoc s k hlt]; exact hashTo_snoc a _ _)
      go_wp2
      go_round
      case rel => exact ⟨k + 1, by omega, by go_num, by rw [HS.out]⟩
      case measure => simp [intOf]; omega
    · go_wp2
      refine bodyPost_ret (v := .agg #[.int .u64 (hashTo a (s.data.toList.take k))]) (by simp [results, Tryd.results14, go_sem]) rfl ⟨by rw [List.take_of_length_le (by simp; omega)], Joins.below_alloc1 _ _⟩

set_option maxHeartbeats 800000 in
theorem refnew_any (a : Int) (s : ByteArray) (hs : s.size ≤ maxLen) (w : World) :
    Calls Tryd.prog 15 #[.int .u64 a, .string s] w fun e w' => e = .returned (.agg #[.int .u64 (hashTo a s.data.toList)]) ∧ Below w.heap.size w w' := by
  unfold maxLen at hs
  go_enter Tryd.func15, Tryd.ntmps15
  go_wp2
  go_loop [5, 6] (fun t i => ∃ k : Nat, k ≤ s.size ∧ i = .int .i64 k ∧ t = .int .u64 (hashTo a (s.data.toList.take k))) (fun _ i => s.size - (intOf i).toNat)
  case atStart => exact ⟨0, Nat.zero_le _, rfl, rfl⟩
  case round =>
    obtain ⟨k, hk, rfl, rfl⟩ := hrel
    by_cases hlt : k < s.size
    · have HS : Hid (hashTo a (s.data.toList.take (k + 1)) = IntKind.u64.wrap (bits .xor .u64 (hashTo a (s.data.toList.take k)) (IntKind.u64.wrap (s[k].toNat : Int)) * 1099511628211)) := hid (by rw [take_snoc s k hlt]; exact hashTo_snoc a _ _)
      go_wp2
      go_round
      case rel => exact ⟨k + 1, by omega, by go_num, by rw [HS.out]⟩
      case measure => simp [intOf]; omega
    · go_wp2
      refine bodyPost_ret (v := .agg #[.int .u64 (hashTo a (s.data.toList.take k))]) (by simp [results, Tryd.results15, go_sem]) rfl ⟨by rw [List.take_of_length_le (by simp; omega)], Joins.below_alloc1 _ _⟩

end Go.Proofs.YtadpgndodbfciaaDoor
