/-
  The walk of trail: the nodes on a way.
-/
import Derived.Test.YtokpdjdpeaccbaaGSp2
namespace Go.Proofs.Ytokpdjdpeaccbaa
open Go.RowKit

/-- The nodes from one on, each with the one beside it. -/
inductive Tr (L : Nat → Wy) : Int → List Nat → Prop
  | done : Tr L (-1) []
  | step {u : Nat} {l : List Nat} : Tr L (L u).nx l → Tr L (u : Int) (u :: l)
theorem Tr.nil' {L : Nat → Wy} {v : Int} (h : Tr L v []) : v = -1 := by cases h; rfl
theorem Tr.cons' {L : Nat → Wy} {v : Int} {u : Nat} {l : List Nat} (h : Tr L v (u :: l)) : v = (u : Int) ∧ Tr L (L u).nx l := by cases h with | step h => exact ⟨rfl, h⟩
/-- What trail leaves. -/
def Trld (l : List Nat) (w : World) (e : Ending) (w' : World) : Prop := ∃ v, e = .returned v ∧ RowI w' w.heap.size v l.length (fun j => (l.getD j 0 : Int)) ∧ Below w.heap.size w w'
def lenS : Value → Nat
  | .slice _ n _ => n
  | _ => 0
set_option maxRecDepth 100000 in
set_option maxHeartbeats 6400000 in
theorem trail_any (M n Bx cc : Nat) (L : Nat → Wy) (v : Int) (l : List Nat) (hl : l.length ≤ 100000) (hln : ∀ u ∈ l, u < n) (hT : Tr L v l) (w : World) (hR : RowW w Bx (.slice (some ⟨M, 0, none⟩) n cc) n L) :
    Calls Try.prog 47 #[.slice (some ⟨M, 0, none⟩) n cc, .int .i64 v] w (Trld l w) := by
  obtain ⟨B, hB⟩ : ∃ B, w.heap.size = B := ⟨_, rfl⟩
  have HBW := hid hB
  have HT := hid hT
  have HR := hid hR
  have HLN := hid hln
  clear hB hT hR hln
  go_enter Try.func47, Try.ntmps47
  go_wp2_with fail
  go_loopw [1, 5] (fun nv lv wr => ∃ (v : Int) (pre rest : List Nat), nv = .int .i64 v ∧ Hid (pre ++ rest = l ∧ Tr L v rest) ∧ Hid (RowI wr B lv pre.length (fun j => (pre.getD j 0 : Int)) ∧ Below B w wr)) (fun _ lv _ => l.length - lenS lv)
  case atStart => exact ⟨v, [], l, rfl, hid ⟨rfl, HT.out⟩, hid ⟨World.ownsRow_nil _ _ _ _, Below.refl _ _⟩⟩
  case round =>
    obtain ⟨v, pre, rest, rfl, HP, HS⟩ := hrel
    obtain ⟨so, sc, rfl⟩ := row_slice HS.out.1
    cases rest with
    | nil =>
      obtain rfl := Tr.nil' HP.out.2
      go_wp2_with fail
      go_ret
      have h := HP.out.1
      rw [List.append_nil] at h
      subst h
      exact ⟨_, rfl, by rw [HBW.out]; exact HS.out.1, by rw [HBW.out]; exact HS.out.2⟩
    | cons u rest =>
      obtain ⟨rfl, hT⟩ := Tr.cons' HP.out.2
      have HTT := hid hT
      have hlen : pre.length + 1 ≤ l.length := by rw [← HP.out.1]; simp
      have hun : u < n := HLN.out u (by rw [← HP.out.1]; simp)
      have hne : (u : Int) ≠ -1 := by omega
      have hne' : ((u : Int) == -1) = false := by simp
      have hBs : B ≤ wr.heap.size := by rw [← HBW.out]; exact HS.out.2.size
      have hba : Below wr.heap.size wr (wr.alloc (.cells #[.int .i64 (u : Int)] 3)) := (Below.refl _ _).alloc (Nat.le_refl _) _
      have HA : Hid (RowI (wr.alloc (.cells #[.int .i64 (u : Int)] 3)) B (.slice so pre.length sc) pre.length (fun j => (pre.getD j 0 : Int)) ∧ Below B w (wr.alloc (.cells #[.int .i64 (u : Int)] 3))) := hid ⟨row_stays HS.out.1 hba, HS.out.2.trans (hba.mono hBs)⟩
      have HI : Hid (Ints (wr.alloc (.cells #[.int .i64 (u : Int)] 3)) (some ⟨wr.heap.size, 0, none⟩) 1 (fun _ => (u : Int))) := hid (fun j hj => ⟨wr.heap.size, 0, rfl, by simp, by
        obtain rfl : j = 0 := by omega
        rw [cell_of_row _ _ _ _ _ _ (heap_new wr _)]; rfl⟩)
      have hBs2 : B ≤ (wr.alloc (.cells #[.int .i64 (u : Int)] 3)).heap.size := by rw [World.size_alloc]; omega
      clear hba hT
      go_wp2_with (at_builtin; refine wpList_append_ints _ rfl _ _ rfl rfl B _ pre.length _ rfl HA.out.1 _ 1 1 _ rfl HI.out (by omega) hBs2 ?_; intro v3 w3 hr3 hb3; have hbw := HA.out.2.trans hb3; have r3 := (RowW.cell (row_stays HR.out (by rw [HBW.out]; exact hbw)) hun).2.2.2)
      have HS3 : Hid (RowI w3 B v3 (pre ++ [u]).length (fun j => ((pre ++ [u]).getD j 0 : Int)) ∧ Below B w w3) := hid ⟨by
        rw [List.length_append, List.length_cons, List.length_nil, Nat.zero_add]
        have hc : vals (pre.length + 1) (iv fun j => if j < pre.length then (pre.getD j 0 : Int) else (u : Int)) = vals (pre.length + 1) (iv fun j => ((pre ++ [u]).getD j 0 : Int)) := vals_congr (fun i hi => by
          simp only [iv]
          by_cases h : i < pre.length
          · rw [if_pos h, List.getD_eq_getElem?_getD, List.getD_eq_getElem?_getD, List.getElem?_append_left h]
          · obtain rfl : i = pre.length := by omega
            rw [if_neg h, List.getD_eq_getElem?_getD, List.getElem?_append_right (Nat.le_refl _), Nat.sub_self]; rfl)
        show w3.ownsRow B 3 1 v3 (pre.length + 1) (vals (pre.length + 1) _)
        rw [← hc]
        exact hr3, hbw⟩
      obtain ⟨so3, sc3, rfl⟩ := row_slice hr3
      clear hr3 hb3 hbw HA HI HS
      go_roundw
      case rel => exact ⟨(L u).nx, pre ++ [u], rest, rfl, hid ⟨by rw [← HP.out.1]; simp, HTT.out⟩, HS3⟩
      case measure => simp [lenS]; omega
end Go.Proofs.Ytokpdjdpeaccbaa
