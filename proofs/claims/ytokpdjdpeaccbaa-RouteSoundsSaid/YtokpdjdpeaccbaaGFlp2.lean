/-
  The walk of flip: edges that lead the other way round.
-/
import Derived.Test.YtokpdjdpeaccbaaGFlip
namespace Go.Proofs.Ytokpdjdpeaccbaa
open Go.RowKit

def flE (e : Ed) : Ed := ⟨e.t, e.f, e.c⟩
/-- The first i edges are turned. -/
def parE (E : Nat → Ed) (i : Nat) : Nat → Ed := fun j => if j < i then flE (E j) else E j
theorem RowE.turn {w : World} {B g m c i : Nat} {E : Nat → Ed} (h : RowE w B (.slice (some ⟨g, 0, none⟩) m c) m (parE E i)) (hi : i < m) :
    RowE ((w.setCell ⟨g, i * 3, none⟩ (.int .i64 (E i).t)).setCell ⟨g, i * 3 + 1, none⟩ (.int .i64 (E i).f)) B (.slice (some ⟨g, 0, none⟩) m c) m (parE E (i + 1)) := by
  have := ((h.stored (i * 3) (.int .i64 (E i).t)).1.stored (i * 3 + 1) (.int .i64 (E i).f)).1
  have he : ((encE m (parE E i)).set (i * 3) (.int .i64 (E i).t)).set (i * 3 + 1) (.int .i64 (E i).f) = encE m (parE E (i + 1)) := by
    refine encE_ext (by simp [encE_length]) fun j t hj ht => ?_
    have ht3 : t = 0 ∨ t = 1 ∨ t = 2 := by omega
    by_cases e : j = i
    · subst e
      have h0 := encE_length m (parE E j)
      have h1 : parE E (j + 1) j = flE (E j) := by simp [parE]
      have h2 : parE E j j = E j := by simp [parE]
      rw [h1]
      rcases ht3 with rfl | rfl | rfl
      · rw [List.getElem?_set_ne (by omega), Nat.add_zero, List.getElem?_set_self (by rw [h0]; omega)]; rfl
      · rw [List.getElem?_set_self (by rw [List.length_set, h0]; omega)]; rfl
      · rw [List.getElem?_set_ne (by omega), List.getElem?_set_ne (by omega), encE_get _ hj (by omega), h2]; rfl
    · have h1 : parE E (i + 1) j = parE E i j := by unfold parE; by_cases h : j < i <;> simp [h] <;> omega
      rw [h1, List.getElem?_set_ne (by omega), List.getElem?_set_ne (by omega), encE_get _ hj ht]
  rw [he] at this
  exact this
set_option maxRecDepth 100000 in
set_option maxHeartbeats 3200000 in
theorem flip_any (eo : Option Addr) (m c : Nat) (E : Nat → Ed) (hm : m ≤ 100000) (w : World) (hE : Eds w eo m E) :
    Calls Try.prog 44 #[.slice eo m c] w (Clnd m (fun i => flE (E i)) w) := by
  have H := hid (cloneE_any eo m c E hm w hE)
  obtain ⟨B, hB⟩ : ∃ B, w.heap.size = B := ⟨_, rfl⟩
  have HBW := hid hB
  clear hE hB
  go_enter Try.func44, Try.ntmps44
  go_wp2_with fail
  refine H.out.mono ?_
  rintro e w2 ⟨vo, vc, rfl, hrow, hbel⟩
  rw [HBW.out] at hrow hbel
  have HR : Hid (RowE w2 B (.slice vo m vc) m (parE E 0) ∧ Below B w w2) := hid ⟨by
    show w2.ownsRow B _ 3 _ m (encE m (parE E 0))
    rw [encE_congr (M := E) (fun i _ => by simp [parE])]
    exact hrow, hbel⟩
  clear hrow hbel H
  go_wp2_with fail
  go_loopw [10] (fun iv wr => ∃ i : Nat, i ≤ m ∧ iv = .int .i64 i ∧ Hid (RowE wr B (.slice vo m vc) m (parE E i) ∧ Below B w wr)) (fun iv _ => m - (intOf iv).toNat)
  case atStart => exact ⟨0, Nat.zero_le _, rfl, HR⟩
  case round =>
    clear HR
    obtain ⟨i, hi, rfl, HR⟩ := hrel
    by_cases hlt : i < m
    · obtain ⟨g, cap, e, hBg, hgl⟩ := HR.out.1.form (by omega)
      cases e
      obtain ⟨a0, a1, a2⟩ := RowE.cell HR.out.1 hlt
      have hp : parE E i i = E i := by simp [parE]
      rw [hp] at a0 a1 a2
      obtain ⟨x, hx⟩ : ∃ x, E i = x := ⟨_, rfl⟩
      rw [hx] at a0 a1 a2
      have HX := hid hx
      have hba : Below wr.heap.size wr (wr.alloc (.cells #[.int .i64 x.f, .int .i64 x.t, .int .i64 x.c] 41)) := (Below.refl _ _).alloc (Nat.le_refl _) _
      have hBs : B ≤ wr.heap.size := by omega
      have hr2 := row_stays HR.out.1 hba
      have hb2 := HR.out.2.trans (hba.mono hBs)
      have hn := heap_new wr (.cells #[.int .i64 x.f, .int .i64 x.t, .int .i64 x.c] 41)
      have hgE : g ≠ wr.heap.size := by omega
      have HRR : Hid (RowE (wr.alloc (.cells #[.int .i64 x.f, .int .i64 x.t, .int .i64 x.c] 41)) B (.slice (some ⟨g, 0, none⟩) m vc) m (parE E i) ∧ Below B w (wr.alloc (.cells #[.int .i64 x.f, .int .i64 x.t, .int .i64 x.c] 41))) := hid ⟨hr2, hb2⟩
      have HN := hid hn
      clear hp hx hba hr2 hb2 hn
      go_upto_region 5 with fail
      clear a0 a1 a2 HR hBs
      generalize wr.heap.size = X at HN hgE hgl ⊢
      generalize wr.alloc _ = w4 at HRR HN ⊢
      have d0 := cell_of_row w4 X 0 _ _ _ HN.out
      have d1 := cell_of_row w4 X 1 _ _ _ HN.out
      simp only [List.getElem?_toArray, List.getElem?_cons_zero, List.getElem?_cons_succ] at d0 d1
      obtain ⟨a0, a1, a2⟩ := RowE.cell HRR.out.1 hlt
      have af : ∀ j, w4.frozen? ⟨g, j, none⟩ = false := fun j => HRR.out.1.frozenAt j
      have ht := RowE.turn HRR.out.1 hlt
      rw [HX.out] at ht
      have HT : Hid (RowE ((w4.setCell ⟨g, i * 3, none⟩ (.int .i64 x.t)).setCell ⟨g, i * 3 + 1, none⟩ (.int .i64 x.f)).drew B (.slice (some ⟨g, 0, none⟩) m vc) m (parE E (i + 1)) ∧ Below B w ((w4.setCell ⟨g, i * 3, none⟩ (.int .i64 x.t)).setCell ⟨g, i * 3 + 1, none⟩ (.int .i64 x.f)).drew) := hid ⟨row_stays ht ((Below.refl _ _).drew), ((HRR.out.2.setCell (p := ⟨g, i * 3, none⟩) hBg _).setCell (p := ⟨g, i * 3 + 1, none⟩) hBg _).drew⟩
      clear ht HN HRR
      go_region_held3 (fun w' => w'.cell? ⟨X, 0, none⟩ = some (.int .i64 x.f) ∧ w'.cell? ⟨X, 1, none⟩ = some (.int .i64 x.t))
        (go_keep)
        (fail)
      clear a0 a1 a2 af d0 d1
      go_wp2_with fail
      go_roundw
      case rel => exact ⟨i + 1, by omega, by go_num, HT⟩
      case measure => simp [intOf]; omega
    · obtain rfl : m = i := by omega
      go_wp2_with fail
      go_ret
      refine ⟨vo, vc, rfl, ?_, ?_⟩
      · rw [HBW.out]
        show wr.ownsRow B _ 3 _ m (encE m _)
        rw [encE_congr (M := parE E m) (fun j hj => by simp [parE, hj])]
        exact HR.out.1
      · rw [HBW.out]; exact HR.out.2
end Go.Proofs.Ytokpdjdpeaccbaa
