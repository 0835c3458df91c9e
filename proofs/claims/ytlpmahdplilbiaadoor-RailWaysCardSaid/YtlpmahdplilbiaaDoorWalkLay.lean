/-
  The walks of Lay, of the program and of the reference.
-/
import Derived.Test.YtlpmahdplilbiaaDoorWalkPlace
import Derived.Test.YtlpmahdplilbiaaDoorWalkCopy
import Derived.Test.YtlpmahdplilbiaaDoorWalkSame
import Derived.StillTailTactics
namespace Go.Proofs.YtlpmahdplilbiaaDoor
open Go.RowKit

/-- No rails. -/
abbrev rnil : Value := rv 0 0 (.slice none 0 0) (.slice none 0 0)
/-- The error of laying (b: the piece lies there already) and of lifting. -/
def LErr (b : Bool) (eb : Int) (W H : Int) (n m : Nat) (Z : Nat → Int) (B : Nat → Bool) (t p e : Int) : Prop :=
  PErr W H n m Z B t p e ∨ (e = eb ∧ PErr W H n m Z B t p 0 ∧ (0 ≤ t ∧ t < n) ∧ has (Z t.toNat) p = b)
theorem LErr.place {b : Bool} {eb W H : Int} {n m : Nat} {Z : Nat → Int} {B : Nat → Bool} {t p e : Int} (h : LErr b eb W H n m Z B t p e) :
    PErr W H n m Z B t p e ∨ (e = eb ∧ PErr W H n m Z B t p 0 ∧ (0 ≤ t ∧ t < n) ∧ has (Z t.toNat) p = b) := h
theorem PErr.right {W H : Int} {n m : Nat} {Z : Nat → Int} {B : Nat → Bool} {t p : Int} (h : PErr W H n m Z B t p 0) : Right W H n m Z B ∧ (0 ≤ p ∧ p ≤ 5) ∧ 0 ≤ t ∧ t < n := by
  rcases h with ⟨h, _⟩ | ⟨h, _⟩ | ⟨h, _⟩ | ⟨_, h⟩
  · cases h
  · cases h
  · cases h
  · exact h
theorem PErr.piece {W H : Int} {n m : Nat} {Z : Nat → Int} {B : Nat → Bool} {t p : Int} (h : PErr W H n m Z B t p 0) : 0 ≤ p ∧ p ≤ 5 := h.right.2.1
theorem PErr.fine {W H : Int} {n m : Nat} {Z : Nat → Int} {B : Nat → Bool} {t p : Int} (h : PErr W H n m Z B t p 0) (_ : 0 ≤ t ∧ t < n) : ∀ i, i < n → 0 ≤ Z i ∧ Z i ≤ 63 :=
  fun i hi => ⟨(h.right.1.fine i hi).1, (h.right.1.fine i hi).2.1⟩
/-- One element changed. -/
def upd {α : Type} (F : Nat → α) (t : Nat) (x : α) : Nat → α := fun i => if i = t then x else F i
theorem vals_upd {α : Type} (f : α → Value) (n : Nat) (F : Nat → α) (t : Nat) (x : α) : (vals n fun i => f (F i)).set t (f x) = vals n fun i => f (upd F t x i) := by
  rw [vals_set]; apply vals_congr; intro i _; unfold upd; split <;> rfl
theorem vals_updI (n : Nat) (Z : Nat → Int) (t : Nat) (x : Int) : (vals n (iv Z)).set t (.int .i64 x) = vals n (iv (upd Z t x)) := vals_upd (fun y => Value.int .i64 y) n Z t x
theorem vals_updB (n : Nat) (B : Nat → Bool) (t : Nat) (x : Bool) : (vals n (bv B)).set t (.bool x) = vals n (bv (upd B t x)) := vals_upd (fun y => Value.bool y) n B t x
theorem or_bit {z p : Int} (hz : 0 ≤ z ∧ z ≤ 63) (hp : 0 ≤ p ∧ p ≤ 5) (h : has z p = false) : bits .or .i64 z (wrap64 (2 ^ p.toNat)) = z + 2 ^ p.toNat := by
  obtain ⟨k, rfl⟩ := fin64 hz
  obtain ⟨q, rfl⟩ := fin6 hp
  clear hz hp
  revert k q
  decide +kernel
theorem clr_bit {z p : Int} (hz : 0 ≤ z ∧ z ≤ 63) (hp : 0 ≤ p ∧ p ≤ 5) (h : has z p = true) : bits .andNot .i64 z (wrap64 (2 ^ p.toNat)) = z - 2 ^ p.toNat := by
  obtain ⟨k, rfl⟩ := fin64 hz
  obtain ⟨q, rfl⟩ := fin6 hp
  clear hz hp
  revert k q
  decide +kernel
theorem or_bd {z p : Int} (hz : 0 ≤ z ∧ z ≤ 63) (hp : 0 ≤ p ∧ p ≤ 5) (h : has z p = false) : 1 ≤ (2 : Int) ^ p.toNat ∧ (2 : Int) ^ p.toNat ≤ 32 ∧ 1 ≤ z + 2 ^ p.toNat ∧ z + 2 ^ p.toNat ≤ 63 := by
  obtain ⟨k, rfl⟩ := fin64 hz
  obtain ⟨q, rfl⟩ := fin6 hp
  clear hz hp
  revert k q
  decide +kernel
theorem clr_bd {z p : Int} (hz : 0 ≤ z ∧ z ≤ 63) (hp : 0 ≤ p ∧ p ≤ 5) (h : has z p = true) : 1 ≤ (2 : Int) ^ p.toNat ∧ (2 : Int) ^ p.toNat ≤ 32 ∧ 0 ≤ z - 2 ^ p.toNat ∧ z - 2 ^ p.toNat ≤ 63 := by
  obtain ⟨k, rfl⟩ := fin64 hz
  obtain ⟨q, rfl⟩ := fin6 hp
  clear hz hp
  revert k q
  decide +kernel
/-- The memory while a piece is laid or lifted: the box of the new rails, the result's box, the new rows. -/
structure LS (A o g c k d n : Nat) (W H : Int) (Z : Nat → Int) (B : Nat → Bool) (w wr : World) : Prop where
  below : Below A w wr
  ho : wr.heap[o]? = some (.cells #[.int .i64 W, .int .i64 H, .slice (some ⟨g, 0, none⟩) n c, .slice (some ⟨k, 0, none⟩) n d] 25 (0, 0))
  hr : wr.heap[A + 1]? = some (.cells #[.int .i64 0, .int .i64 0, .slice none 0 0, .slice none 0 0] 25 (0, 0))
  rg : wr.ownsRow A 3 1 (.slice (some ⟨g, 0, none⟩) n c) n (vals n (iv Z))
  rk : wr.ownsRow A 4 1 (.slice (some ⟨k, 0, none⟩) n d) n (vals n (bv B))
  ng : g ≠ o ∧ g ≠ A + 1
  nk : k ≠ o ∧ k ≠ A + 1
  gk : g ≠ k
  no : o ≠ A + 1 ∧ A ≤ o
section
variable {A o g c k d n : Nat} {W H : Int} {Z : Nat → Int} {B : Nat → Bool} {w wr : World}
theorem LS.drew (h : LS A o g c k d n W H Z B w wr) : LS A o g c k d n W H Z B w wr.drew := ⟨h.below.drew, h.ho, h.hr, h.rg.drew, h.rk.drew, h.ng, h.nk, h.gk, h.no⟩
theorem LS.setG (h : LS A o g c k d n W H Z B w wr) (t : Nat) (x : Int) : LS A o g c k d n W H (upd Z t x) B w (wr.setCell ⟨g, t, none⟩ (.int .i64 x)) := by
  have hg := (h.rg.lt g rfl).1
  have r := h.rg.stored t (.int .i64 x)
  rw [vals_updI] at r
  exact ⟨h.below.setCell (p := ⟨g, t, none⟩) hg _, (Below.heap_setCell _ _ _ o (by simpa using h.ng.1.symm)).trans h.ho, (Below.heap_setCell _ _ _ (A + 1) (by simpa using h.ng.2.symm)).trans h.hr, r.1,
    row_other (a := ⟨g, t, none⟩) h.rk (by simpa [Value.ownBlock] using h.gk.symm) _, h.ng, h.nk, h.gk, h.no⟩
theorem LS.setK (h : LS A o g c k d n W H Z B w wr) (t : Nat) (x : Bool) : LS A o g c k d n W H Z (upd B t x) w (wr.setCell ⟨k, t, none⟩ (.bool x)) := by
  have hk := (h.rk.lt k rfl).1
  have r := h.rk.stored t (.bool x)
  rw [vals_updB] at r
  exact ⟨h.below.setCell (p := ⟨k, t, none⟩) hk _, (Below.heap_setCell _ _ _ o (by simpa using h.nk.1.symm)).trans h.ho, (Below.heap_setCell _ _ _ (A + 1) (by simpa using h.nk.2.symm)).trans h.hr,
    row_other (a := ⟨k, t, none⟩) h.rg (by simpa [Value.ownBlock] using h.gk) _, r.1, h.ng, h.nk, h.gk, h.no⟩
theorem LS.g_at (h : LS A o g c k d n W H Z B w wr) {t : Nat} (ht : t < n) : wr.cell? ⟨o, 2, none⟩ = some (.slice (some ⟨g, 0, none⟩) n c) ∧ wr.cell? ⟨o, 3, none⟩ = some (.slice (some ⟨k, 0, none⟩) n d) ∧
    wr.cell? ⟨g, t, none⟩ = some (.int .i64 (Z t)) ∧ wr.frozen? ⟨g, t, none⟩ = false ∧ g < wr.heap.size :=
  ⟨cell_of_row wr o 2 _ _ _ h.ho, cell_of_row wr o 3 _ _ _ h.ho, (h.rg.cellAt t (by omega)).trans (vals_get _ ht), h.rg.frozenAt t, (h.rg.lt g rfl).2⟩
theorem LS.k_at (h : LS A o g c k d n W H Z B w wr) {t : Nat} (ht : t < n) : wr.cell? ⟨o, 2, none⟩ = some (.slice (some ⟨g, 0, none⟩) n c) ∧ wr.cell? ⟨o, 3, none⟩ = some (.slice (some ⟨k, 0, none⟩) n d) ∧
    wr.cell? ⟨k, t, none⟩ = some (.bool (B t)) ∧ wr.frozen? ⟨k, t, none⟩ = false ∧ k < wr.heap.size :=
  ⟨cell_of_row wr o 2 _ _ _ h.ho, cell_of_row wr o 3 _ _ _ h.ho, (h.rk.cellAt t (by omega)).trans (vals_get _ ht), h.rk.frozenAt t, (h.rk.lt k rfl).2⟩
theorem ls_of {p : Prop} (h : LS A o g c k d n W H Z B w wr ∧ p) : LS A o g c k d n W H Z B w wr := h.1
theorem ls_keep (h : LS A o g c k d n W H Z B w wr) {t : Nat} (ht : t < n) {b : Bool} (hb : B t = b) : LS A o g c k d n W H Z B w wr ∧ wr.cell? ⟨o, 2, none⟩ = some (.slice (some ⟨g, 0, none⟩) n c) ∧ wr.cell? ⟨o, 3, none⟩ = some (.slice (some ⟨k, 0, none⟩) n d) ∧
    wr.cell? ⟨k, t, none⟩ = some (.bool b) := by
  subst hb
  exact ⟨h, (h.k_at ht).1, (h.k_at ht).2.1, (h.k_at ht).2.2.1⟩
theorem ls_put (h : LS A o g c k d n W H Z B w wr) {t : Nat} {b : Bool} (hb : B t = b) : LS A o g c k d n W H Z B w (wr.setCell ⟨k, t, none⟩ (.bool b)) := by
  have h' := h.setK t b
  have e : upd B t b = B := by
    funext i
    unfold upd
    split
    · rename_i hi; rw [hi]; exact hb.symm
    · rfl
  rwa [e] at h'
theorem ls_alloc {q0 q1 q2 q3 : Value} (h : Bx2 A 25 25 #[q0, q1, q2, q3] #[.int .i64 0, .int .i64 0, .slice none 0 0, .slice none 0 0] w wr) (rg : wr.ownsRow A 3 1 (.slice (some ⟨g, 0, none⟩) n c) n (vals n (iv Z)))
    (rk : wr.ownsRow A 4 1 (.slice (some ⟨k, 0, none⟩) n d) n (vals n (bv B))) (hg : A + 1 < g) (hk : A + 1 < k) (gk : g ≠ k) :
    LS A wr.heap.size g c k d n W H Z B w (wr.alloc (.cells #[.int .i64 W, .int .i64 H, .slice (some ⟨g, 0, none⟩) n c, .slice (some ⟨k, 0, none⟩) n d] 25)) := by
  have hr := heap_lt h.hr
  have l1 := (rg.lt g rfl).2
  have l2 := (rk.lt k rfl).2
  have hb := Joins.below_alloc1 wr (.cells #[.int .i64 W, .int .i64 H, .slice (some ⟨g, 0, none⟩) n c, .slice (some ⟨k, 0, none⟩) n d] 25)
  refine ⟨h.below.trans (hb.mono (by omega)), ?_, (hb.block _ hr).trans h.hr, row_stays rg hb, row_stays rk hb, by omega, by omega, gk, by omega⟩
  show (wr.heap.push _)[_]? = _
  rw [Array.getElem?_push, if_pos rfl]
theorem ls_box {q0 q1 q2 q3 : Value} (h : Bx2 A 25 25 #[q0, q1, q2, q3] #[.int .i64 0, .int .i64 0, .slice none 0 0, .slice none 0 0] w wr) (rg : wr.ownsRow A 3 1 (.slice (some ⟨g, 0, none⟩) n c) n (vals n (iv Z)))
    (rk : wr.ownsRow A 4 1 (.slice (some ⟨k, 0, none⟩) n d) n (vals n (bv B))) (hg : A + 1 < g) (hk : A + 1 < k) (gk : g ≠ k) (_ _ : Value) :
    LS A A g c k d n W H Z B w ((((wr.setCell ⟨A, 0, none⟩ (.int .i64 W)).setCell ⟨A, 1, none⟩ (.int .i64 H)).setCell ⟨A, 2, none⟩ (.slice (some ⟨g, 0, none⟩) n c)).setCell ⟨A, 3, none⟩ (.slice (some ⟨k, 0, none⟩) n d)) :=
  ⟨set4_below h.below (Nat.le_refl _) _ _ _ _, set4 h.hb _ _ _ _, by rw [Below.heap_setCell _ _ _ (A + 1) (by simp), Below.heap_setCell _ _ _ (A + 1) (by simp), Below.heap_setCell _ _ _ (A + 1) (by simp), Below.heap_setCell _ _ _ (A + 1) (by simp)]; exact h.hr,
    set4_row rg (by simp [Value.ownBlock]; omega) _ _ _ _, set4_row rk (by simp [Value.ownBlock]; omega) _ _ _ _, by omega, by omega, gk, by omega⟩
end
/-- Rails in memory of the call's own, and no error. -/
def Made (W H : Int) (n : Nat) (Z : Nat → Int) (B : Nat → Bool) (w : World) (r : Ending) (w' : World) : Prop :=
  ∃ g c k d, r = .returned (.tuple #[rv W H (.slice (some ⟨g, 0, none⟩) n c) (.slice (some ⟨k, 0, none⟩) n d), .int .i64 0]) ∧ w'.ownsRow w.heap.size 3 1 (.slice (some ⟨g, 0, none⟩) n c) n (vals n (iv Z)) ∧
    w'.ownsRow w.heap.size 4 1 (.slice (some ⟨k, 0, none⟩) n d) n (vals n (bv B)) ∧ Below w.heap.size w w'

set_option maxHeartbeats 1600000 in
theorem lay_bad (W H : Int) (ao : Option Addr) (n cap : Nat) (Z : Nat → Int) (bo : Option Addr) (m bcap : Nat) (B : Nat → Bool) (hn : n ≤ 9223372036854775807) (hm : m ≤ 9223372036854775807) (t p : Int) (wired : Bool) (e : Int) (he : e ≠ 0) (h : LErr true 3 W H n m Z B t p e) (w : World) (hI : Ints w ao n Z) (hB : Bools w bo m B) :
    Calls Tryd.prog 26 #[rv W H (.slice ao n cap) (.slice bo m bcap), .int .i64 t, .int .i64 p, .bool wired] w fun r w' => r = .returned (.tuple #[rnil, .int .i64 e]) ∧ Below w.heap.size w w' := by
  have hst := bx2_start w 25 25 #[.int .i64 W, .int .i64 H, .slice ao n cap, .slice bo m bcap] #[.int .i64 0, .int .i64 0, .slice none 0 0, .slice none 0 0]
  have HI := hid (hI.stays hst.below)
  have HB := hid (hB.stays hst.below)
  have HST := hid hst
  obtain ⟨A, hA⟩ : ∃ A, A = w.heap.size := ⟨_, rfl⟩
  have HA := hid hA
  rcases h.place with h | ⟨rfl, h, ht, hh⟩
  · have HP := hid h
    have g1 : (e != 0) = true := by simpa using he
    have g2 : (e == 0) = false := by simpa using he
    clear hI hB hst h he
    go_enter Tryd.func26, Tryd.ntmps26
    go_wp2_with fail
    refine (place_to W H ao n cap Z bo m bcap B hn hm t p e HP.out _ HI.out HB.out).mono ?_
    rintro r w2 ⟨rfl, hb2⟩
    have H2 := hid (HST.out.stays hb2)
    have HI2 := hid (HI.out.stays hb2)
    have HB2 := hid (HB.out.stays hb2)
    simp only [← hA] at H2 ⊢
    clear hA hb2 HST HI HB
    clear HI2 HB2
    have hr := H2.out.hr
    have r0 := cell_of_row w2 (A + 1) 0 _ _ _ hr
    have r1 := cell_of_row w2 (A + 1) 1 _ _ _ hr
    have r2 := cell_of_row w2 (A + 1) 2 _ _ _ hr
    have r3 := cell_of_row w2 (A + 1) 3 _ _ _ hr
    simp only [List.getElem?_toArray, List.getElem?_cons_zero, List.getElem?_cons_succ] at r0 r1 r2 r3
    have f0 := frozen_of_row w2 (A + 1) 0 _ _ hr
    have f1 := frozen_of_row w2 (A + 1) 1 _ _ hr
    have f2 := frozen_of_row w2 (A + 1) 2 _ _ hr
    have f3 := frozen_of_row w2 (A + 1) 3 _ _ hr
    have hbz := heap_lt hr
    clear hr
    go_wp2_with fail
    have k3 := set4 H2.out.hr (.int .i64 0) (.int .i64 0) (.slice none 0 0) (.slice none 0 0)
    have k4 := set4_below (g := A + 1) H2.out.below (Nat.le_succ _) (.int .i64 0) (.int .i64 0) (.slice none 0 0) (.slice none 0 0)
    clear r0 r1 r2 r3 f0 f1 f2 f3
    generalize World.setCell _ _ _ = w5 at k3 k4 ⊢
    have q0 := cell_of_row w5 (A + 1) 0 _ _ _ k3
    have q1 := cell_of_row w5 (A + 1) 1 _ _ _ k3
    have q2 := cell_of_row w5 (A + 1) 2 _ _ _ k3
    have q3 := cell_of_row w5 (A + 1) 3 _ _ _ k3
    simp only [List.getElem?_toArray, List.getElem?_cons_zero, List.getElem?_cons_succ] at q0 q1 q2 q3
    refine bodyPost_ret (v := .tuple #[rnil, .int .i64 e]) (by simp [results, Tryd.results26, go_sem, q0, q1, q2, q3]) rfl ⟨rfl, ?_⟩
    rw [← HA.out]; exact k4
  · have HP := hid h
    have HZ := hid (h.fine ht)
    obtain ⟨hp1, hp2⟩ := h.piece
    obtain ⟨t, rfl⟩ := Int.eq_ofNat_of_zero_le ht.1
    have ht2 : t < n := by omega
    rw [Int.toNat_natCast] at hh
    have HH := hid hh
    clear hI hB hst h he ht hh
    go_enter Tryd.func26, Tryd.ntmps26
    go_wp2_with fail
    refine (place_to W H ao n cap Z bo m bcap B hn hm (t : Int) p 0 HP.out _ HI.out HB.out).mono ?_
    rintro r w2 ⟨rfl, hb2⟩
    have H2 := hid (HST.out.stays hb2)
    have HI2 := hid (HI.out.stays hb2)
    have HB2 := hid (HB.out.stays hb2)
    simp only [← hA] at H2 ⊢
    clear hA hb2 HST HI HB
    have b0 := cell_of_row w2 A 0 _ _ _ H2.out.hb
    have b1 := cell_of_row w2 A 1 _ _ _ H2.out.hb
    have b2 := cell_of_row w2 A 2 _ _ _ H2.out.hb
    have b3 := cell_of_row w2 A 3 _ _ _ H2.out.hb
    simp only [List.getElem?_toArray, List.getElem?_cons_zero, List.getElem?_cons_succ] at b0 b1 b2 b3
    go_wp2_with fail
    refine (lies_any W H ao n cap Z _ t p ⟨hp1, hp2⟩ ht2 (HZ.out t ht2).1 (HZ.out t ht2).2 true HH.out _ HI2.out).mono ?_
    rintro r w3 ⟨rfl, hb3⟩
    have H3 := hid (H2.out.stays hb3)
    clear hb3 b0 b1 b2 b3 H2 HI2 HB2
    have hr := H3.out.hr
    have r0 := cell_of_row w3 (A + 1) 0 _ _ _ hr
    have r1 := cell_of_row w3 (A + 1) 1 _ _ _ hr
    have r2 := cell_of_row w3 (A + 1) 2 _ _ _ hr
    have r3 := cell_of_row w3 (A + 1) 3 _ _ _ hr
    simp only [List.getElem?_toArray, List.getElem?_cons_zero, List.getElem?_cons_succ] at r0 r1 r2 r3
    have f0 := frozen_of_row w3 (A + 1) 0 _ _ hr
    have f1 := frozen_of_row w3 (A + 1) 1 _ _ hr
    have f2 := frozen_of_row w3 (A + 1) 2 _ _ hr
    have f3 := frozen_of_row w3 (A + 1) 3 _ _ hr
    have hbz := heap_lt hr
    clear hr
    go_wp2_with fail
    have k3 := set4 H3.out.hr (.int .i64 0) (.int .i64 0) (.slice none 0 0) (.slice none 0 0)
    have k4 := set4_below (g := A + 1) H3.out.below (Nat.le_succ _) (.int .i64 0) (.int .i64 0) (.slice none 0 0) (.slice none 0 0)
    clear r0 r1 r2 r3 f0 f1 f2 f3
    generalize World.setCell _ _ _ = w5 at k3 k4 ⊢
    have q0 := cell_of_row w5 (A + 1) 0 _ _ _ k3
    have q1 := cell_of_row w5 (A + 1) 1 _ _ _ k3
    have q2 := cell_of_row w5 (A + 1) 2 _ _ _ k3
    have q3 := cell_of_row w5 (A + 1) 3 _ _ _ k3
    simp only [List.getElem?_toArray, List.getElem?_cons_zero, List.getElem?_cons_succ] at q0 q1 q2 q3
    refine bodyPost_ret (v := .tuple #[rnil, .int .i64 3]) (by simp [results, Tryd.results26, go_sem, q0, q1, q2, q3]) rfl ⟨rfl, ?_⟩
    rw [← HA.out]; exact k4

set_option maxRecDepth 100000 in
set_option maxHeartbeats 3200000 in
theorem lay_ok (W H : Int) (ao : Option Addr) (n cap : Nat) (Z : Nat → Int) (bo : Option Addr) (bcap : Nat) (B : Nat → Bool) (t : Nat) (p : Int) (wired : Bool) (hR : Right W H n n Z B) (hp : 0 ≤ p ∧ p ≤ 5) (ht : t < n) (hh : has (Z t) p = false) (w : World) (hI : Ints w ao n Z) (hB : Bools w bo n B) :
    Calls Tryd.prog 26 #[rv W H (.slice ao n cap) (.slice bo n bcap), .int .i64 t, .int .i64 p, .bool wired] w (Made W H n (upd Z t (Z t + 2 ^ p.toNat)) (upd B t (B t || wired)) w) := by
  have hbd := hR.sized.bound
  have hn1 : 0 < n := by have := hR.sets; omega
  have hn2 : n ≤ 1024 := by have := hR.sets; omega
  have hn : n ≤ 9223372036854775807 := by omega
  have hm := hn
  have hst := bx2_start w 25 25 #[.int .i64 W, .int .i64 H, .slice ao n cap, .slice bo n bcap] #[.int .i64 0, .int .i64 0, .slice none 0 0, .slice none 0 0]
  have HI := hid (hI.stays hst.below)
  have HB := hid (hB.stays hst.below)
  have HST := hid hst
  obtain ⟨A, hA⟩ : ∃ A, A = w.heap.size := ⟨_, rfl⟩
  have HA := hid hA
  have HP : Hid (PErr W H n n Z B t p 0) := hid (.inr (.inr (.inr ⟨rfl, hR, hp, by omega, by omega⟩)))
  have HZ := hid (fun i (hi : i < n) => And.intro (hR.fine i hi).1 (hR.fine i hi).2.1)
  have hz := hR.fine t ht
  obtain ⟨z, hzz⟩ : ∃ z, z = Z t := ⟨_, rfl⟩
  obtain ⟨x, hxx⟩ : ∃ x, x = B t := ⟨_, rfl⟩
  rw [← hzz] at hz hh ⊢
  rw [← hxx] at hz ⊢
  have HZZ := hid hzz
  have HXX := hid hxx
  have HH := hid hh
  obtain ⟨hz0, hz63, hzb⟩ := hz
  have hq : bits .or .i64 z (wrap64 (2 ^ p.toNat)) = z + 2 ^ p.toNat := or_bit ⟨hz0, hz63⟩ hp hh
  have hqb := or_bd ⟨hz0, hz63⟩ hp hh
  obtain ⟨hp1, hp2⟩ := hp
  clear hI hB hst hzz hxx hh hR hzb hbd
  go_enter Tryd.func26, Tryd.ntmps26
  go_wp2_with fail
  refine (place_to W H ao n cap Z bo n bcap B hn hm (t : Int) p 0 HP.out _ HI.out HB.out).mono ?_
  rintro r w2 ⟨rfl, hb2⟩
  have H2 := hid (HST.out.stays hb2)
  have HI2 := hid (HI.out.stays hb2)
  have HB2 := hid (HB.out.stays hb2)
  simp only [← hA] at H2 ⊢
  clear hA hb2 HST HI HB
  have b0 := cell_of_row w2 A 0 _ _ _ H2.out.hb
  have b1 := cell_of_row w2 A 1 _ _ _ H2.out.hb
  have b2 := cell_of_row w2 A 2 _ _ _ H2.out.hb
  have b3 := cell_of_row w2 A 3 _ _ _ H2.out.hb
  simp only [List.getElem?_toArray, List.getElem?_cons_zero, List.getElem?_cons_succ] at b0 b1 b2 b3
  go_wp2_with fail
  refine (lies_any W H ao n cap Z _ t p ⟨hp1, hp2⟩ ht (HZ.out t ht).1 (HZ.out t ht).2 false (by have := HH.out; rwa [HZZ.out] at this) _ HI2.out).mono ?_
  rintro r w3 ⟨rfl, hb3⟩
  have H3 := hid (H2.out.stays hb3)
  have HI3 := hid (HI2.out.stays hb3)
  have HB3 := hid (HB2.out.stays hb3)
  clear hb3 b0 b1 b2 b3 H2 HI2 HB2
  have b0 := cell_of_row w3 A 0 _ _ _ H3.out.hb
  have b1 := cell_of_row w3 A 1 _ _ _ H3.out.hb
  have b2 := cell_of_row w3 A 2 _ _ _ H3.out.hb
  have b3 := cell_of_row w3 A 3 _ _ _ H3.out.hb
  simp only [List.getElem?_toArray, List.getElem?_cons_zero, List.getElem?_cons_succ] at b0 b1 b2 b3
  go_wp2_with fail
  refine (clone_any W H ao n cap Z bo bcap B hn1 (by omega) _ HI3.out HB3.out).mono ?_
  rintro r w4 ⟨g, c, k, d, rfl, hg, hk, hgk, hb4⟩
  have H4 := hid (H3.out.stays hb4)
  have hgz := hg.lt g rfl
  have hkz := hk.lt k rfl
  have hA4 := heap_lt H3.out.hr
  have HG4 := hid (row_mono (base' := A) hg (by omega))
  have HK4 := hid (row_mono (base' := A) hk (by omega))
  clear hb4 hg hk b0 b1 b2 b3 H3 HI3 HB3
  have b0 := cell_of_row w4 A 0 _ _ _ H4.out.hb
  have b1 := cell_of_row w4 A 1 _ _ _ H4.out.hb
  have b2 := cell_of_row w4 A 2 _ _ _ H4.out.hb
  have b3 := cell_of_row w4 A 3 _ _ _ H4.out.hb
  simp only [List.getElem?_toArray, List.getElem?_cons_zero, List.getElem?_cons_succ] at b0 b1 b2 b3
  have e0 := frozen_of_row w4 A 0 _ _ H4.out.hb
  have e1 := frozen_of_row w4 A 1 _ _ H4.out.hb
  have e2 := frozen_of_row w4 A 2 _ _ H4.out.hb
  have e3 := frozen_of_row w4 A 3 _ _ H4.out.hb
  go_wp2_with fail
  have HL : Hid (LS A A g c k d n W H Z B w ((((w4.setCell ⟨A, 0, none⟩ (.int .i64 W)).setCell ⟨A, 1, none⟩ (.int .i64 H)).setCell ⟨A, 2, none⟩ (.slice (some ⟨g, 0, none⟩) n c)).setCell ⟨A, 3, none⟩ (.slice (some ⟨k, 0, none⟩) n d))) :=
    hid (ls_box H4.out HG4.out HK4.out (by omega) (by omega) hgk (.int .i64 0) (.int .i64 0))
  clear b0 b1 b2 b3 e0 e1 e2 e3 H4 HG4 HK4 hgz hkz
  generalize World.setCell _ _ _ = w5 at HL ⊢
  obtain ⟨c2, c3, cg, fg, sg⟩ := HL.out.g_at ht
  rw [← HZZ.out] at cg
  have hAz := heap_lt HL.out.hr
  have t1 : (0 : Int) ≤ (t : Int) := by omega
  have t2 : (t : Int) < (n : Int) := by omega
  obtain ⟨qb1, qb2, qb3, qb4⟩ := hqb
  have HQ := hid hq
  have HQ2 : Hid (wrap64 (2 ^ p.toNat) = 2 ^ p.toNat) := hid (by unfold wrap64; omega)
  clear hq
  go_still_tail 9, (by kernel_rfl)
  change wpList _ _ _ _ _ w5.drew
  have HL1 := hid HL.out.drew
  clear c2 c3 cg fg sg HL
  generalize w5.drew = w6 at HL1 ⊢
  obtain ⟨c2, c3, cg, fg, sg⟩ := HL1.out.g_at ht
  go_wp2_with fail
  rw [show bits .or .i64 z (2 ^ p.toNat) = z + 2 ^ p.toNat by have h := HQ.out; rwa [HQ2.out] at h]
  obtain ⟨y, hy⟩ : ∃ y, y = z + 2 ^ p.toNat := ⟨_, rfl⟩
  rw [← hy]
  rw [← hy] at qb3 qb4
  have HY := hid hy
  clear hy qb1 qb2
  have HL2 := hid (HL1.out.setG t y)
  clear c2 c3 cg fg sg HL1
  generalize w6.setCell _ _ = w7 at HL2 ⊢
  obtain ⟨c2, c3, ck, fk, sk⟩ := HL2.out.k_at ht
  rw [← HXX.out] at ck
  generalize IntKind.i64.wrap (2 ^ p.toNat) = v1
  generalize bits _ _ z v1 = v2
  cases x
  · go_still_tail 12, (by kernel_rfl)
    change wpList _ _ _ _ _ w7.drew
    have HL3 := hid HL2.out.drew
    clear c2 c3 ck fk sk HL2
    generalize w7.drew = w8 at HL3 ⊢
    obtain ⟨c2, c3, ck, fk, sk⟩ := HL3.out.k_at ht
    have HL4 := hid (HL3.out.setK t wired)
    have b0 := cell_of_row w8 A 0 _ _ _ HL3.out.ho
    have b1 := cell_of_row w8 A 1 _ _ _ HL3.out.ho
    have b2 := cell_of_row w8 A 2 _ _ _ HL3.out.ho
    have b3 := cell_of_row w8 A 3 _ _ _ HL3.out.ho
    simp only [List.getElem?_toArray, List.getElem?_cons_zero, List.getElem?_cons_succ] at b0 b1 b2 b3
    have hr := HL3.out.hr
    have n1 := HL3.out.nk.1
    have n2 := HL3.out.nk.2
    have n3 := n1.symm
    have n4 := n2.symm
    have r0 := cell_of_row w8 (A + 1) 0 _ _ _ hr
    have r1 := cell_of_row w8 (A + 1) 1 _ _ _ hr
    have r2 := cell_of_row w8 (A + 1) 2 _ _ _ hr
    have r3 := cell_of_row w8 (A + 1) 3 _ _ _ hr
    simp only [List.getElem?_toArray, List.getElem?_cons_zero, List.getElem?_cons_succ] at r0 r1 r2 r3
    have f0 := frozen_of_row w8 (A + 1) 0 _ _ hr
    have f1 := frozen_of_row w8 (A + 1) 1 _ _ hr
    have f2 := frozen_of_row w8 (A + 1) 2 _ _ hr
    have f3 := frozen_of_row w8 (A + 1) 3 _ _ hr
    have hbz := heap_lt hr
    have hoz := heap_lt HL3.out.ho
    clear hr
    go_wp2_with fail
    have k3 := set4 HL4.out.hr (.int .i64 W) (.int .i64 H) (.slice (some ⟨g, 0, none⟩) n c) (.slice (some ⟨k, 0, none⟩) n d)
    have k4 := set4_below (g := A + 1) HL4.out.below (Nat.le_succ _) (.int .i64 W) (.int .i64 H) (.slice (some ⟨g, 0, none⟩) n c) (.slice (some ⟨k, 0, none⟩) n d)
    have k5 := set4_row (g := A + 1) HL4.out.rg (by simpa [Value.ownBlock] using HL4.out.ng.2) (.int .i64 W) (.int .i64 H) (.slice (some ⟨g, 0, none⟩) n c) (.slice (some ⟨k, 0, none⟩) n d)
    have k6 := set4_row (g := A + 1) HL4.out.rk (by simpa [Value.ownBlock] using HL4.out.nk.2) (.int .i64 W) (.int .i64 H) (.slice (some ⟨g, 0, none⟩) n c) (.slice (some ⟨k, 0, none⟩) n d)
    clear r0 r1 r2 r3 f0 f1 f2 f3 b0 b1 b2 b3 c2 c3 ck fk sk n1 n2 n3 n4
    generalize World.setCell _ _ _ = w10 at k3 k4 k5 k6 ⊢
    have q0 := cell_of_row w10 (A + 1) 0 _ _ _ k3
    have q1 := cell_of_row w10 (A + 1) 1 _ _ _ k3
    have q2 := cell_of_row w10 (A + 1) 2 _ _ _ k3
    have q3 := cell_of_row w10 (A + 1) 3 _ _ _ k3
    simp only [List.getElem?_toArray, List.getElem?_cons_zero, List.getElem?_cons_succ] at q0 q1 q2 q3
    refine bodyPost_ret (v := .tuple #[rv W H (.slice (some ⟨g, 0, none⟩) n c) (.slice (some ⟨k, 0, none⟩) n d), .int .i64 0]) (by simp [results, Tryd.results26, go_sem, q0, q1, q2, q3]) rfl ⟨g, c, k, d, rfl, by rw [← HA.out]; first | exact k5 | (rw [← HY.out]; exact k5), by rw [← HA.out]; first | exact k6 | (rw [← HY.out]; exact k6), by rw [← HA.out]; exact k4⟩
  · go_still_tail 12, (by kernel_rfl)
    change wpList _ _ _ _ _ w7.drew
    have HL3 := hid HL2.out.drew
    clear c2 c3 ck fk sk HL2
    generalize w7.drew = w8 at HL3 ⊢
    obtain ⟨c2, c3, ck, fk, sk⟩ := HL3.out.k_at ht
    have HL4 := hid (HL3.out.setK t true)
    have b0 := cell_of_row w8 A 0 _ _ _ HL3.out.ho
    have b1 := cell_of_row w8 A 1 _ _ _ HL3.out.ho
    have b2 := cell_of_row w8 A 2 _ _ _ HL3.out.ho
    have b3 := cell_of_row w8 A 3 _ _ _ HL3.out.ho
    simp only [List.getElem?_toArray, List.getElem?_cons_zero, List.getElem?_cons_succ] at b0 b1 b2 b3
    have hr := HL3.out.hr
    have n1 := HL3.out.nk.1
    have n2 := HL3.out.nk.2
    have n3 := n1.symm
    have n4 := n2.symm
    have r0 := cell_of_row w8 (A + 1) 0 _ _ _ hr
    have r1 := cell_of_row w8 (A + 1) 1 _ _ _ hr
    have r2 := cell_of_row w8 (A + 1) 2 _ _ _ hr
    have r3 := cell_of_row w8 (A + 1) 3 _ _ _ hr
    simp only [List.getElem?_toArray, List.getElem?_cons_zero, List.getElem?_cons_succ] at r0 r1 r2 r3
    have f0 := frozen_of_row w8 (A + 1) 0 _ _ hr
    have f1 := frozen_of_row w8 (A + 1) 1 _ _ hr
    have f2 := frozen_of_row w8 (A + 1) 2 _ _ hr
    have f3 := frozen_of_row w8 (A + 1) 3 _ _ hr
    have hbz := heap_lt hr
    have hoz := heap_lt HL3.out.ho
    clear hr
    go_wp2_with fail
    have k3 := set4 HL4.out.hr (.int .i64 W) (.int .i64 H) (.slice (some ⟨g, 0, none⟩) n c) (.slice (some ⟨k, 0, none⟩) n d)
    have k4 := set4_below (g := A + 1) HL4.out.below (Nat.le_succ _) (.int .i64 W) (.int .i64 H) (.slice (some ⟨g, 0, none⟩) n c) (.slice (some ⟨k, 0, none⟩) n d)
    have k5 := set4_row (g := A + 1) HL4.out.rg (by simpa [Value.ownBlock] using HL4.out.ng.2) (.int .i64 W) (.int .i64 H) (.slice (some ⟨g, 0, none⟩) n c) (.slice (some ⟨k, 0, none⟩) n d)
    have k6 := set4_row (g := A + 1) HL4.out.rk (by simpa [Value.ownBlock] using HL4.out.nk.2) (.int .i64 W) (.int .i64 H) (.slice (some ⟨g, 0, none⟩) n c) (.slice (some ⟨k, 0, none⟩) n d)
    clear r0 r1 r2 r3 f0 f1 f2 f3 b0 b1 b2 b3 c2 c3 ck fk sk n1 n2 n3 n4
    generalize World.setCell _ _ _ = w10 at k3 k4 k5 k6 ⊢
    have q0 := cell_of_row w10 (A + 1) 0 _ _ _ k3
    have q1 := cell_of_row w10 (A + 1) 1 _ _ _ k3
    have q2 := cell_of_row w10 (A + 1) 2 _ _ _ k3
    have q3 := cell_of_row w10 (A + 1) 3 _ _ _ k3
    simp only [List.getElem?_toArray, List.getElem?_cons_zero, List.getElem?_cons_succ] at q0 q1 q2 q3
    refine bodyPost_ret (v := .tuple #[rv W H (.slice (some ⟨g, 0, none⟩) n c) (.slice (some ⟨k, 0, none⟩) n d), .int .i64 0]) (by simp [results, Tryd.results26, go_sem, q0, q1, q2, q3]) rfl ⟨g, c, k, d, rfl, by rw [← HA.out]; first | exact k5 | (rw [← HY.out]; exact k5), by rw [← HA.out]; first | exact k6 | (rw [← HY.out]; exact k6), by rw [← HA.out]; exact k4⟩
end Go.Proofs.YtlpmahdplilbiaaDoor
