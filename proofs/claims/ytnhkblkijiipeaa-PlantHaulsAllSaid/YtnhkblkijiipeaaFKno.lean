/-
  The walk of known: a new mill, to which three units are given.
-/
import Derived.Test.YtnhkblkijiipeaaFBrg
namespace Go.Proofs.Ytnhkblkijiipeaa
open Go.RowKit

def mill : ByteArray := { data := #[109, 105, 108, 108] }
/-- The kinds of the example. -/
def wK (a b : Nat) : Nat → Kd := fun _ => ⟨mill, some ⟨a, 0, none⟩, 1, 1, fun _ => 0, some ⟨b, 0, none⟩, 1, 1, fun _ => 1, fun _ => 4⟩
theorem wK_err (a b : Nat) : KErr 1 (wK a b) = 0 := rfl
theorem wK_small (a b : Nat) : Small 1 (wK a b) := ⟨fun _ _ => by show mill.size ≤ maxLen; decide, fun _ _ => by show 1 ≤ 1000; decide, fun _ _ => by show 1 ≤ 1000; decide⟩
theorem wK_new (a b : Nat) : NwErr 1 (wK a b) 0 7 = 0 ∧ NwD 1 (wK a b) 0 7 = newD 0 7 1 := nw_0 (k := 0) rfl rfl rfl
theorem wK_right {a b : Nat} {p : Pl} (h : Is p (newD 0 7 1)) : Right 1 (wK a b) p 0 :=
  (DRight.mk (KErr_kinds (wK_err a b)) (wK_err a b) rfl (by decide) rfl ⟨by decide, by decide, fun _ _ => by show (0 : Int) ≤ 0 ∧ (0 : Int) ≤ 1000000; decide, fun _ _ => by show (0 : Int) ≤ 0 ∧ (0 : Int) ≤ 7; decide, fun _ _ => by show (0 : Int) ≤ 0 ∧ (0 : Int) ≤ 1000000; decide, fun _ _ => by show (0 : Int) ≤ 0 ∧ (0 : Int) ≤ 1000000; decide, by decide, by decide⟩ : DRight 1 (wK a b) (newD 0 7 1) 0).right h
theorem wK_bring {a b : Nat} {p : Pl} (h : Is p (newD 0 7 1)) : BrR 1 (wK a b) p 0 3 = (broughtD (dataOf p 1) (fun _ => 4) 3, 3, 0) :=
  br_yes (k := 0) (uerr_0 (wK_right h).err rfl rfl) h.k h.o rfl
theorem works_any (w : World) : Calls Try.prog 32 #[] w fun e w' => ∃ a b c, e = .returned (.slice (some ⟨c, 0, none⟩) 1 1) ∧ Kds w' (some ⟨c, 0, none⟩) 1 (wK a b) ∧ Below w.heap.size w w' := by
  obtain ⟨W, hW⟩ : ∃ W, ((w.alloc (.cells #[.int .i64 0] 3)).alloc (.cells #[.int .i64 1, .int .i64 4] 42)).alloc (.cells #[.string mill, .slice (some ⟨w.heap.size, 0, none⟩) 1 1, .slice (some ⟨w.heap.size + 1, 0, none⟩) 1 1] 40) = W := ⟨_, rfl⟩
  have h : W.heap[w.heap.size]? = some (.cells #[.int .i64 0] 3 (0, 0)) ∧ W.heap[w.heap.size + 1]? = some (.cells #[.int .i64 1, .int .i64 4] 42 (0, 0)) ∧ W.heap[w.heap.size + 1 + 1]? = some (.cells #[.string mill, .slice (some ⟨w.heap.size, 0, none⟩) 1 1, .slice (some ⟨w.heap.size + 1, 0, none⟩) 1 1] 40 (0, 0)) ∧ Below w.heap.size w W := by
    subst hW
    refine ⟨?_, ?_, ?_, (Joins.below_alloc2 _ _ _).alloc (by simp; omega) _⟩
    · exact (Below.heap_alloc _ _ _ (by simp; omega)).trans ((Below.heap_alloc _ _ _ (by simp)).trans (heap_new _ _))
    · have := heap_new (w.alloc (.cells #[.int .i64 0] 3)) (.cells #[.int .i64 1, .int .i64 4] 42)
      rw [World.size_alloc] at this
      exact (Below.heap_alloc _ _ _ (by simp)).trans this
    · have := heap_new ((w.alloc (.cells #[.int .i64 0] 3)).alloc (.cells #[.int .i64 1, .int .i64 4] 42)) (.cells #[.string mill, .slice (some ⟨w.heap.size, 0, none⟩) 1 1, .slice (some ⟨w.heap.size + 1, 0, none⟩) 1 1] 40)
      rw [World.size_alloc, World.size_alloc] at this
      exact this
  have HH := hid h
  have HW := hid hW
  clear h hW
  unfold mill at HH HW
  go_enter Try.func32, Try.ntmps32
  go_wp2_with fail
  rw [HW.out]
  go_ret
  obtain ⟨h0, h1, h2, hb⟩ := HH.out
  refine ⟨w.heap.size, w.heap.size + 1, w.heap.size + 1 + 1, rfl, fun j hj => ?_, hb⟩
  obtain rfl : j = 0 := by omega
  refine ⟨⟨_, 0, rfl, heap_lt h2, cell_of_row _ _ 0 _ _ _ h2, cell_of_row _ _ 1 _ _ _ h2, cell_of_row _ _ 2 _ _ _ h2⟩, fun i hi => ?_, fun i hi => ?_⟩
  · obtain rfl : i = 0 := by have : i < 1 := hi; omega
    exact ⟨_, 0, rfl, heap_lt h0, cell_of_row _ _ 0 _ _ _ h0⟩
  · obtain rfl : i = 0 := by have : i < 1 := hi; omega
    exact ⟨_, 0, rfl, heap_lt h1, cell_of_row _ _ 0 _ _ _ h1, cell_of_row _ _ 1 _ _ _ h1⟩
/-- The new mill's box at X, the heap's last block. -/
structure F4 (p : Pl) (B X : Nat) (w w4 : World) : Prop where
  size : w4.heap.size = X + 1
  below : Below B w w4
  le : B ≤ X
  bx : w4.heap[X]? = some (boxOf p)
  lists : PlAt w4 p
theorem F4.box {p : Pl} {B X : Nat} {w w4 w1 : World} (h : F4 p B X w w4) (hb : Below (X + 1) w4 w1) : w1.heap[X]? = some (boxOf p) := (hb.block _ (by omega)).trans h.bx
theorem ks_at {p : Pl} {B X : Nat} {w w4 w1 : World} (h : F4 p B X w w4) (hb : Below (X + 1) w4 w1) : (fun w' => Below (X + 1) w4 w' ∧ w'.cell? ⟨X, 0, none⟩ = some (.int .i64 p.k) ∧ w'.cell? ⟨X, 1, none⟩ = some (.int .i64 p.t) ∧ w'.cell? ⟨X, 2, none⟩ = some (.int .i64 p.l) ∧ w'.cell? ⟨X, 3, none⟩ = some (.slice p.st.a p.st.n p.st.c) ∧ w'.cell? ⟨X, 4, none⟩ = some (.slice p.re.a p.re.n p.re.c) ∧ w'.cell? ⟨X, 5, none⟩ = some (.slice p.ma.a p.ma.n p.ma.c) ∧ w'.cell? ⟨X, 6, none⟩ = some (.slice p.mo.a p.mo.n p.mo.c) ∧ w'.cell? ⟨X, 7, none⟩ = some (.int .i64 p.g) ∧ w'.cell? ⟨X, 8, none⟩ = some (.int .i64 p.i) ∧ w'.cell? ⟨X, 9, none⟩ = some (.bool p.o)) w1 :=
  ⟨hb, cell_of_row _ _ 0 _ _ _ (h.box hb), cell_of_row _ _ 1 _ _ _ (h.box hb), cell_of_row _ _ 2 _ _ _ (h.box hb), cell_of_row _ _ 3 _ _ _ (h.box hb), cell_of_row _ _ 4 _ _ _ (h.box hb), cell_of_row _ _ 5 _ _ _ (h.box hb), cell_of_row _ _ 6 _ _ _ (h.box hb), cell_of_row _ _ 7 _ _ _ (h.box hb), cell_of_row _ _ 8 _ _ _ (h.box hb), cell_of_row _ _ 9 _ _ _ (h.box hb)⟩
theorem ks_keep {p : Pl} {B X : Nat} {w w4 w1 w2 : World} (h : F4 p B X w w4) (h1 : Below (X + 1) w4 w1) (hb : Below w1.heap.size w1 w2) : (fun w' => Below (X + 1) w4 w' ∧ w'.cell? ⟨X, 0, none⟩ = some (.int .i64 p.k) ∧ w'.cell? ⟨X, 1, none⟩ = some (.int .i64 p.t) ∧ w'.cell? ⟨X, 2, none⟩ = some (.int .i64 p.l) ∧ w'.cell? ⟨X, 3, none⟩ = some (.slice p.st.a p.st.n p.st.c) ∧ w'.cell? ⟨X, 4, none⟩ = some (.slice p.re.a p.re.n p.re.c) ∧ w'.cell? ⟨X, 5, none⟩ = some (.slice p.ma.a p.ma.n p.ma.c) ∧ w'.cell? ⟨X, 6, none⟩ = some (.slice p.mo.a p.mo.n p.mo.c) ∧ w'.cell? ⟨X, 7, none⟩ = some (.int .i64 p.g) ∧ w'.cell? ⟨X, 8, none⟩ = some (.int .i64 p.i) ∧ w'.cell? ⟨X, 9, none⟩ = some (.bool p.o)) w2 :=
  ks_at h (h1.trans (hb.mono (by have := h1.size; have := h.size; omega)))
theorem ks_store {p : Pl} {B X Y : Nat} {w w4 W : World} (h : F4 p B X w w4) (h1 : Below (X + 1) w4 W) (hY : X + 1 ≤ Y) (q : Pl) : (fun w' => Below (X + 1) w4 w' ∧ w'.cell? ⟨X, 0, none⟩ = some (.int .i64 p.k) ∧ w'.cell? ⟨X, 1, none⟩ = some (.int .i64 p.t) ∧ w'.cell? ⟨X, 2, none⟩ = some (.int .i64 p.l) ∧ w'.cell? ⟨X, 3, none⟩ = some (.slice p.st.a p.st.n p.st.c) ∧ w'.cell? ⟨X, 4, none⟩ = some (.slice p.re.a p.re.n p.re.c) ∧ w'.cell? ⟨X, 5, none⟩ = some (.slice p.ma.a p.ma.n p.ma.c) ∧ w'.cell? ⟨X, 6, none⟩ = some (.slice p.mo.a p.mo.n p.mo.c) ∧ w'.cell? ⟨X, 7, none⟩ = some (.int .i64 p.g) ∧ w'.cell? ⟨X, 8, none⟩ = some (.int .i64 p.i) ∧ w'.cell? ⟨X, 9, none⟩ = some (.bool p.o)) ((((((((((W.setCell ⟨Y, 0, none⟩ (.int .i64 q.k)).setCell ⟨Y, 1, none⟩ (.int .i64 q.t)).setCell ⟨Y, 2, none⟩ (.int .i64 q.l)).setCell ⟨Y, 3, none⟩ (.slice q.st.a q.st.n q.st.c)).setCell ⟨Y, 4, none⟩ (.slice q.re.a q.re.n q.re.c)).setCell ⟨Y, 5, none⟩ (.slice q.ma.a q.ma.n q.ma.c)).setCell ⟨Y, 6, none⟩ (.slice q.mo.a q.mo.n q.mo.c)).setCell ⟨Y, 7, none⟩ (.int .i64 q.g)).setCell ⟨Y, 8, none⟩ (.int .i64 q.i)).setCell ⟨Y, 9, none⟩ (.bool q.o)) :=
  ks_at h (set10_below h1 hY (.int .i64 q.k) (.int .i64 q.t) (.int .i64 q.l) (.slice q.st.a q.st.n q.st.c) (.slice q.re.a q.re.n q.re.c) (.slice q.ma.a q.ma.n q.ma.c) (.slice q.mo.a q.mo.n q.mo.c) (.int .i64 q.g) (.int .i64 q.i) (.bool q.o))
theorem zb0 {w : World} {Y : Nat} (h : w.heap[Y]? = some zeroBox) : w.cell? ⟨Y, 0, none⟩ = some (.int .i64 0) := cell_of_row _ _ 0 _ _ _ h
theorem zb1 {w : World} {Y : Nat} (h : w.heap[Y]? = some zeroBox) : w.cell? ⟨Y, 1, none⟩ = some (.int .i64 0) := cell_of_row _ _ 1 _ _ _ h
theorem zb2 {w : World} {Y : Nat} (h : w.heap[Y]? = some zeroBox) : w.cell? ⟨Y, 2, none⟩ = some (.int .i64 0) := cell_of_row _ _ 2 _ _ _ h
theorem zb3 {w : World} {Y : Nat} (h : w.heap[Y]? = some zeroBox) : w.cell? ⟨Y, 3, none⟩ = some (.slice none 0 0) := cell_of_row _ _ 3 _ _ _ h
theorem zb4 {w : World} {Y : Nat} (h : w.heap[Y]? = some zeroBox) : w.cell? ⟨Y, 4, none⟩ = some (.slice none 0 0) := cell_of_row _ _ 4 _ _ _ h
theorem zb5 {w : World} {Y : Nat} (h : w.heap[Y]? = some zeroBox) : w.cell? ⟨Y, 5, none⟩ = some (.slice none 0 0) := cell_of_row _ _ 5 _ _ _ h
theorem zb6 {w : World} {Y : Nat} (h : w.heap[Y]? = some zeroBox) : w.cell? ⟨Y, 6, none⟩ = some (.slice none 0 0) := cell_of_row _ _ 6 _ _ _ h
theorem zb7 {w : World} {Y : Nat} (h : w.heap[Y]? = some zeroBox) : w.cell? ⟨Y, 7, none⟩ = some (.int .i64 0) := cell_of_row _ _ 7 _ _ _ h
theorem zb8 {w : World} {Y : Nat} (h : w.heap[Y]? = some zeroBox) : w.cell? ⟨Y, 8, none⟩ = some (.int .i64 0) := cell_of_row _ _ 8 _ _ _ h
theorem zb9 {w : World} {Y : Nat} (h : w.heap[Y]? = some zeroBox) : w.cell? ⟨Y, 9, none⟩ = some (.bool false) := cell_of_row _ _ 9 _ _ _ h
theorem zbf {w : World} {Y : Nat} (h : w.heap[Y]? = some zeroBox) (j : Nat) : w.frozen? ⟨Y, j, none⟩ = false := frozen_of_row _ _ j _ _ h
theorem after_zero {w1 w5 : World} (hn : Below (w1.alloc zeroBox).heap.size (w1.alloc zeroBox) w5) : w5.heap[w1.heap.size]? = some zeroBox := (hn.block _ (by rw [World.size_alloc]; omega)).trans (heap_new _ _)
theorem after_two {w5 w6 : World} {Y : Nat} (z1 : w5.heap[Y]? = some zeroBox) (hn : Below w5.heap.size w5 w6) : w6.heap[Y]? = some zeroBox := (hn.block _ (heap_lt z1)).trans z1
theorem ks_two {p : Pl} {B X : Nat} {w w4 w5 w6 : World} (h : F4 p B X w w4) (hn : Below w4.drew.heap.size w4.drew w5) (hn2 : Below w5.heap.size w5 w6) : Below (X + 1) w4 w6 := by
  have hz := h.size
  have h5 : Below (X + 1) w4 w5 := (((Below.refl (X + 1) w4).drew).trans (hn.mono (by show X + 1 ≤ w4.heap.size; omega)))
  exact h5.trans (hn2.mono (by have := h5.size; omega))
/-- Behind the second call: both boxes. -/
structure KF (p q : Pl) (B X Y : Nat) (w wr : World) : Prop where
  below : Below B w wr
  bx : wr.heap[X]? = some (boxOf p)
  by' : wr.heap[Y]? = some (boxOf q)
  r4 : R4 wr B q
theorem kf_made {p q : Pl} {B X Y N : Nat} {w w4 W : World} (h : F4 p B X w w4) (h1 : Below (X + 1) w4 W) (hY : X + 1 ≤ Y) (hz : W.heap[Y]? = some zeroBox) (hr : R4 W N q) (hN : B ≤ N) (hNE : ∀ v g, v = lv q.st ∨ v = lv q.re ∨ v = lv q.ma ∨ v = lv q.mo → v.ownBlock = some g → g ≠ Y) : KF p q B X Y w ((((((((((W.setCell ⟨Y, 0, none⟩ (.int .i64 q.k)).setCell ⟨Y, 1, none⟩ (.int .i64 q.t)).setCell ⟨Y, 2, none⟩ (.int .i64 q.l)).setCell ⟨Y, 3, none⟩ (.slice q.st.a q.st.n q.st.c)).setCell ⟨Y, 4, none⟩ (.slice q.re.a q.re.n q.re.c)).setCell ⟨Y, 5, none⟩ (.slice q.ma.a q.ma.n q.ma.c)).setCell ⟨Y, 6, none⟩ (.slice q.mo.a q.mo.n q.mo.c)).setCell ⟨Y, 7, none⟩ (.int .i64 q.g)).setCell ⟨Y, 8, none⟩ (.int .i64 q.i)).setCell ⟨Y, 9, none⟩ (.bool q.o)) := by
  have ho : ∀ {v : Value} {m : Nat} {Z : Nat → Int}, RowI W N v m Z → (∀ g, v.ownBlock = some g → g ≠ Y) → RowI ((((((((((W.setCell ⟨Y, 0, none⟩ (.int .i64 q.k)).setCell ⟨Y, 1, none⟩ (.int .i64 q.t)).setCell ⟨Y, 2, none⟩ (.int .i64 q.l)).setCell ⟨Y, 3, none⟩ (.slice q.st.a q.st.n q.st.c)).setCell ⟨Y, 4, none⟩ (.slice q.re.a q.re.n q.re.c)).setCell ⟨Y, 5, none⟩ (.slice q.ma.a q.ma.n q.ma.c)).setCell ⟨Y, 6, none⟩ (.slice q.mo.a q.mo.n q.mo.c)).setCell ⟨Y, 7, none⟩ (.int .i64 q.g)).setCell ⟨Y, 8, none⟩ (.int .i64 q.i)).setCell ⟨Y, 9, none⟩ (.bool q.o)) B v m Z := fun h1 h2 => row_mono (set10_row h1 (fun e => h2 _ e rfl) (.int .i64 q.k) (.int .i64 q.t) (.int .i64 q.l) (.slice q.st.a q.st.n q.st.c) (.slice q.re.a q.re.n q.re.c) (.slice q.ma.a q.ma.n q.ma.c) (.slice q.mo.a q.mo.n q.mo.c) (.int .i64 q.g) (.int .i64 q.i) (.bool q.o)) hN
  have hb := h.below.trans (h1.mono (by have := h.le; omega))
  exact ⟨set10_below hb (by have := h.le; omega) (.int .i64 q.k) (.int .i64 q.t) (.int .i64 q.l) (.slice q.st.a q.st.n q.st.c) (.slice q.re.a q.re.n q.re.c) (.slice q.ma.a q.ma.n q.ma.c) (.slice q.mo.a q.mo.n q.mo.c) (.int .i64 q.g) (.int .i64 q.i) (.bool q.o), (set10_other (.int .i64 q.k) (.int .i64 q.t) (.int .i64 q.l) (.slice q.st.a q.st.n q.st.c) (.slice q.re.a q.re.n q.re.c) (.slice q.ma.a q.ma.n q.ma.c) (.slice q.mo.a q.mo.n q.mo.c) (.int .i64 q.g) (.int .i64 q.i) (.bool q.o) (by omega)).trans (h.box h1), set10 hz (.int .i64 q.k) (.int .i64 q.t) (.int .i64 q.l) (.slice q.st.a q.st.n q.st.c) (.slice q.re.a q.re.n q.re.c) (.slice q.ma.a q.ma.n q.ma.c) (.slice q.mo.a q.mo.n q.mo.c) (.int .i64 q.g) (.int .i64 q.i) (.bool q.o), ⟨ho hr.st (fun g => hNE _ g (.inl rfl)), ho hr.re (fun g => hNE _ g (.inr (.inl rfl))), ho hr.ma (fun g => hNE _ g (.inr (.inr (.inl rfl)))), ho hr.mo (fun g => hNE _ g (.inr (.inr (.inr rfl)))), hr.a1, hr.a2, hr.a3, hr.a4, hr.a5, hr.a6⟩⟩
theorem r4_lt {w : World} {B : Nat} {q : Pl} (h : R4 w B q) : ∀ v g, v = lv q.st ∨ v = lv q.re ∨ v = lv q.ma ∨ v = lv q.mo → v.ownBlock = some g → B ≤ g ∧ g < w.heap.size := by
  intro v g hv hg
  rcases hv with rfl | rfl | rfl | rfl
  · exact h.st.lt g hg
  · exact h.re.lt g hg
  · exact h.ma.lt g hg
  · exact h.mo.lt g hg
theorem kf_last {p q : Pl} {B X N : Nat} {w w4 W : World} (h : F4 p B X w w4) (h1 : Below (X + 1) w4 W) (hr : R4 W N q) (hN : B ≤ N) : KF p q B X W.heap.size w (W.alloc (boxOf q)) := by
  have hb : Below W.heap.size W (W.alloc (boxOf q)) := (Below.refl _ _).alloc (Nat.le_refl _) _
  have hs := h1.size
  have hz := h.size
  have hle := h.le
  exact ⟨(h.below.trans (h1.mono (by omega))).trans (hb.mono (by omega)), h.box (h1.trans (hb.mono (by omega))), heap_new _ _, (hr.mono hN).stays hb⟩
set_option maxRecDepth 100000 in
set_option maxHeartbeats 12800000 in
theorem known_any (w : World) : Calls Try.prog 14 #[] w fun e w' => e = .returned (.bool true) ∧ Below w.heap.size w w' := by
  obtain ⟨B, hB⟩ : ∃ B, w.heap.size = B := ⟨_, rfl⟩
  rw [hB]
  have HBW := hid hB
  clear hB
  go_enter Try.func14, Try.ntmps14
  go_upto_region 2 with (first
    | (go_at_call 32; refine (works_any _).mono ?_; rintro e w2 ⟨a, b, c, rfl, hK, hb⟩; have HK := hid hK; have HB2 := hid hb; clear hK hb)
    | (go_at_call 17; refine (new_any (some ⟨c, 0, none⟩) 1 1 (wK a b) (by omega) (wK_small a b) 0 7 _ _ (wK_new a b) _ HK.out).mono ?_; rintro e w3 ⟨p, rfl, hI, hA, hb⟩; have HI := hid hI; have HA := hid hA; have HB3 := hid hb; clear hI hA hb))
  have hlb : B ≤ w3.heap.size := by rw [← HBW.out]; exact Nat.le_trans HB2.out.size HB3.out.size
  have H4 : Hid (F4 p B w3.heap.size w (w3.alloc (boxOf p))) := hid ⟨World.size_alloc _ _, ((by rw [← HBW.out]; exact HB2.out.trans (HB3.out.mono HB2.out.size) : Below B w w3)).alloc hlb _, hlb, heap_new _ _, HA.out.stays ((Below.refl _ _).alloc (Nat.le_refl _) _)⟩
  obtain ⟨X, hX⟩ : ∃ X, w3.heap.size = X := ⟨_, rfl⟩
  rw [hX] at H4 ⊢
  clear HK HB2 HA HB3 hlb hX
  generalize World.alloc w3 _ = w4 at H4 ⊢
  have HSP := hid (HI.out.small (by show 1 ≤ 1000; decide))
  go_cut [3, 4, 5] (fun s3 s4 s5 wx => ∃ q Y, s3 = .pointer (some ⟨Y, 0, none⟩) ∧ s4 = .int .i64 3 ∧ s5 = .int .i64 0 ∧ Hid (Is q (broughtD (dataOf p 1) (fun _ => 4) 3) ∧ KF p q B X Y w wx))
  case first =>
    refine wp_region_held_drew (S := (fun w' => Below (X + 1) w4 w' ∧ w'.cell? ⟨X, 0, none⟩ = some (.int .i64 p.k) ∧ w'.cell? ⟨X, 1, none⟩ = some (.int .i64 p.t) ∧ w'.cell? ⟨X, 2, none⟩ = some (.int .i64 p.l) ∧ w'.cell? ⟨X, 3, none⟩ = some (.slice p.st.a p.st.n p.st.c) ∧ w'.cell? ⟨X, 4, none⟩ = some (.slice p.re.a p.re.n p.re.c) ∧ w'.cell? ⟨X, 5, none⟩ = some (.slice p.ma.a p.ma.n p.ma.c) ∧ w'.cell? ⟨X, 6, none⟩ = some (.slice p.mo.a p.mo.n p.mo.c) ∧ w'.cell? ⟨X, 7, none⟩ = some (.int .i64 p.g) ∧ w'.cell? ⟨X, 8, none⟩ = some (.int .i64 p.i) ∧ w'.cell? ⟨X, 9, none⟩ = some (.bool p.o))) (by kernel_rfl) (ks_at H4.out ((Below.refl _ _).drew)) (fun hHeld => ?_)
    refine wpAnyH_take (i := 1) (oi := { dst := some 13, op := Op.load 25 (Operand.tmp 1), type := 25, pos := "law.go:21", after := #[], guard := none }) (v := ?_) rfl (by kernel_rfl) (by kernel_rfl) (by kernel_rfl) (fun _ _ _ h => h) (Or.inl ⟨by rfl, ?_⟩) hHeld ?_
    rotate_left
    · intro w hSw; (try dsimp only at hSw); go_simp; try (with_reducible rfl)
    try simp only [Act.put, List.setIfInBounds_toArray, List.set_cons_zero, List.set_cons_succ]
    refine wpAnyH_ready (rs := [0, 7]) (by kernel_rfl) (by simp) ?_
    refine (AllReadyH.cons (o := { dst := some 12, op := Op.call { callee := Callee.value (Operand.func 32), args := #[], argTypes := #[] }, type := 22, pos := "law.go:21", after := #[], guard := none }) rfl (fun K hK => ?_) (AllReadyH.cons (o := { dst := some 3, op := Op.alloc 25, type := 0, pos := "law.go:21", after := #[], guard := none }) rfl (fun K hK => ?_) AllReadyH.nil))
    · skip
      go_simp
      refine (works_any _).mono ?_
      rintro e w5 ⟨a2, b2, c2, rfl, hK2, hn⟩
      try go_wp2_with fail
      have hS5 := ks_keep H4.out hHeld.1 hn
      refine hK.out _ _ hS5 (fun hHeld5 => ?_)
      clear hK K hS5
      try simp only [Act.put, List.setIfInBounds_toArray, List.set_cons_zero, List.set_cons_succ]
      refine wpAnyH_ready (rs := [2, 7]) (by kernel_rfl) (by simp) ?_
      refine (AllReadyH.cons (o := { dst := some 14, op := Op.call { callee := Callee.value (Operand.func 22), args := #[Operand.tmp 12, Operand.tmp 13, Operand.const (Value.int IntKind.i64 0), Operand.const (Value.int IntKind.i64 3)], argTypes := #[22, 25, 3, 3] }, type := 35, pos := "law.go:21", after := #[{ on := 0, ground := Ground.data }, { on := 1, ground := Ground.data }, { on := 0, ground := Ground.chain }], guard := none }) rfl (fun K hK => ?_) (AllReadyH.cons (o := { dst := some 3, op := Op.alloc 25, type := 0, pos := "law.go:21", after := #[], guard := none }) rfl (fun K hK => ?_) AllReadyH.nil))
      · skip
        have hN4 := hHeld5.1.size
        go_simp
        refine (bring_any (some ⟨c2, 0, none⟩) 1 1 (wK a2 b2) (by omega) (wK_small _ _) p HSP.out 0 3 _ _ _ (wK_bring HI.out) _ hK2 (H4.out.lists.stays (by rw [H4.out.size]; exact hHeld5.1))).mono ?_
        rintro e w6 ⟨q, rfl, hQ, hq4, hn2⟩
        try go_wp2_with fail
        have hS6 := ks_keep H4.out hHeld5.1 hn2
        refine hK.out _ _ hS6 (fun hHeld6 => ?_)
        clear hK K hS6
        try simp only [Act.put, List.setIfInBounds_toArray, List.set_cons_zero, List.set_cons_succ]
        refine wpAnyH_take (i := 3) (oi := { dst := some 11, op := Op.move (Operand.tmp 14), type := 35, pos := "law.go:21", after := #[{ on := 2, ground := Ground.data }], guard := none }) (v := ?_) rfl (by kernel_rfl) (by kernel_rfl) (by kernel_rfl) (fun _ _ _ h => h) (Or.inl ⟨by rfl, ?_⟩) hHeld6 ?_
        rotate_left
        · intro w hSw; (try dsimp only at hSw); go_simp; try (with_reducible rfl)
        try simp only [Act.put, List.setIfInBounds_toArray, List.set_cons_zero, List.set_cons_succ]
        refine wpAnyH_take (i := 4) (oi := { dst := some 15, op := Op.extract (Operand.tmp 11) 0, type := 25, pos := "law.go:21", after := #[{ on := 3, ground := Ground.data }], guard := none }) (v := ?_) rfl (by kernel_rfl) (by kernel_rfl) (by kernel_rfl) (fun _ _ _ h => h) (Or.inl ⟨by rfl, ?_⟩) hHeld6 ?_
        rotate_left
        · intro w hSw; (try dsimp only at hSw); go_simp; try (with_reducible rfl)
        try simp only [Act.put, List.setIfInBounds_toArray, List.set_cons_zero, List.set_cons_succ]
        refine wpAnyH_take (i := 5) (oi := { dst := some 16, op := Op.extract (Operand.tmp 11) 1, type := 3, pos := "law.go:21", after := #[{ on := 3, ground := Ground.data }, { on := 8, ground := Ground.gcOnly Departure.lateStores }], guard := none }) (v := ?_) rfl (by kernel_rfl) (by kernel_rfl) (by kernel_rfl) (fun _ _ _ h => h) (Or.inl ⟨by rfl, ?_⟩) hHeld6 ?_
        rotate_left
        · intro w hSw; (try dsimp only at hSw); go_simp; try (with_reducible rfl)
        try simp only [Act.put, List.setIfInBounds_toArray, List.set_cons_zero, List.set_cons_succ]
        refine wpAnyH_take (i := 6) (oi := { dst := some 17, op := Op.extract (Operand.tmp 11) 2, type := 28, pos := "law.go:21", after := #[{ on := 3, ground := Ground.data }, { on := 9, ground := Ground.gcOnly Departure.lateStores }], guard := none }) (v := ?_) rfl (by kernel_rfl) (by kernel_rfl) (by kernel_rfl) (fun _ _ _ h => h) (Or.inl ⟨by rfl, ?_⟩) hHeld6 ?_
        rotate_left
        · intro w hSw; (try dsimp only at hSw); go_simp; try (with_reducible rfl)
        try simp only [Act.put, List.setIfInBounds_toArray, List.set_cons_zero, List.set_cons_succ]
        refine wpAnyH_ready (rs := [7]) (by kernel_rfl) (by simp) ?_
        refine (AllReadyH.cons (o := { dst := some 3, op := Op.alloc 25, type := 0, pos := "law.go:21", after := #[], guard := none }) rfl (fun K hK => ?_) AllReadyH.nil)
        · skip
          go_simp
          have hb7 : Below (World.heap w6).size w6 (World.alloc w6 zeroBox) := (Below.refl _ _).alloc (Nat.le_refl _) _
          have hS7 := ks_keep H4.out hHeld6.1 hb7
          refine hK.out _ _ hS7 (fun hHeld7 => ?_)
          clear hK K hS7
          try simp only [Act.put, List.setIfInBounds_toArray, List.set_cons_zero, List.set_cons_succ]
          have z0 : (World.alloc w6 zeroBox).heap[(World.heap w6).size]? = some zeroBox := heap_new w6 zeroBox
          have hYs : (World.heap w6).size < (World.alloc w6 zeroBox).heap.size := by show (World.heap w6).size < (World.alloc w6 zeroBox).heap.size; rw [World.size_alloc]; omega
          have hYX : X + 1 ≤ (World.heap w6).size := by have := H4.out.size; have := hHeld6.1.size; omega
          have hNE : ∀ v g, v = lv q.st ∨ v = lv q.re ∨ v = lv q.ma ∨ v = lv q.mo → v.ownBlock = some g → g ≠ w6.heap.size := fun v g h1 h2 => by have := (r4_lt hq4 v g h1 h2).2; omega
          have hq4 := hq4.stays hb7
          clear hb7
          generalize World.alloc w6 _ = w7 at hHeld7 z0 hYs hq4 ⊢
          obtain ⟨Y, hY⟩ : ∃ Y, (World.heap w6).size = Y := ⟨_, rfl⟩
          first | rw [hY] at z0 hYs hYX hNE ⊢ | (simp only [hY] at z0 hYs hYX hNE ⊢)
          clear hY
          have z2 := z0
          refine wpAnyH_ready (rs := [8]) (by kernel_rfl) (by simp) ?_
          refine (AllReadyH.cons (o := { dst := none, op := Op.store 25 (Operand.tmp 3) (Operand.tmp 15), type := 0, pos := "law.go:21", after := #[{ on := 7, ground := Ground.data }, { on := 4, ground := Ground.data }, { on := 2, ground := Ground.chain }, { on := 0, ground := Ground.phase }, { on := 1, ground := Ground.phase }, { on := 2, ground := Ground.phase }, { on := 3, ground := Ground.phase }, { on := 4, ground := Ground.phase }, { on := 5, ground := Ground.textOnly Departure.lateStores }, { on := 6, ground := Ground.textOnly Departure.lateStores }, { on := 7, ground := Ground.phase }], guard := none }) rfl (fun K hK => ?_) AllReadyH.nil)
          · skip
            have y0 := zb0 z2
            have y1 := zb1 z2
            have y2 := zb2 z2
            have y3 := zb3 z2
            have y4 := zb4 z2
            have y5 := zb5 z2
            have y6 := zb6 z2
            have y7 := zb7 z2
            have y8 := zb8 z2
            have y9 := zb9 z2
            have yf := zbf z2
            have hS8 := ks_store H4.out hHeld7.1 hYX q
            have HKF := hid (kf_made H4.out hHeld7.1 hYX z2 hq4 (by have h1 := H4.out.le; have h2 := H4.out.size; omega) hNE)
            go_simp
            refine hK.out _ _ hS8 (fun hHeld8 => ?_)
            clear hK K hS8 y0 y1 y2 y3 y4 y5 y6 y7 y8 y9 yf
            try simp only [Act.put, List.setIfInBounds_toArray, List.set_cons_zero, List.set_cons_succ]
            refine wpAnyH_take (i := 9) (oi := { dst := some 4, op := Op.assign (Operand.tmp 16), type := 3, pos := "law.go:21", after := #[{ on := 5, ground := Ground.data }, { on := 8, ground := Ground.chain }, { on := 0, ground := Ground.phase }, { on := 1, ground := Ground.phase }, { on := 2, ground := Ground.phase }, { on := 3, ground := Ground.phase }, { on := 4, ground := Ground.phase }, { on := 5, ground := Ground.phase }, { on := 6, ground := Ground.textOnly Departure.lateStores }, { on := 7, ground := Ground.phase }, { on := 8, ground := Ground.phase }], guard := none }) (v := ?_) rfl (by kernel_rfl) (by kernel_rfl) (by kernel_rfl) (fun _ _ _ h => h) (Or.inl ⟨by rfl, ?_⟩) hHeld8 ?_
            rotate_left
            · intro w hSw; (try dsimp only at hSw); go_simp; try (with_reducible rfl)
            try simp only [Act.put, List.setIfInBounds_toArray, List.set_cons_zero, List.set_cons_succ]
            refine wpAnyH_take (i := 10) (oi := { dst := some 5, op := Op.assign (Operand.tmp 17), type := 28, pos := "law.go:21", after := #[{ on := 6, ground := Ground.data }, { on := 9, ground := Ground.chain }, { on := 0, ground := Ground.phase }, { on := 1, ground := Ground.phase }, { on := 2, ground := Ground.phase }, { on := 3, ground := Ground.phase }, { on := 4, ground := Ground.phase }, { on := 5, ground := Ground.phase }, { on := 6, ground := Ground.phase }, { on := 7, ground := Ground.phase }, { on := 8, ground := Ground.phase }, { on := 9, ground := Ground.phase }], guard := none }) (v := ?_) rfl (by kernel_rfl) (by kernel_rfl) (by kernel_rfl) (fun _ _ _ h => h) (Or.inl ⟨by rfl, ?_⟩) hHeld8 ?_
            rotate_left
            · intro w hSw; (try dsimp only at hSw); go_simp; try (with_reducible rfl)
            try simp only [Act.put, List.setIfInBounds_toArray, List.set_cons_zero, List.set_cons_succ]
            refine wpAnyH_done (by kernel_rfl) ?_ _
            go_wp2_with fail
            go_meet
            exact ⟨q, Y, rfl, rfl, rfl, hid ⟨hQ, HKF.out⟩⟩
      · skip
        go_simp
        have hb7 : Below (World.heap w5).size w5 (World.alloc w5 zeroBox) := (Below.refl _ _).alloc (Nat.le_refl _) _
        have hS7 := ks_keep H4.out hHeld5.1 hb7
        refine hK.out _ _ hS7 (fun hHeld7 => ?_)
        clear hK K hS7
        try simp only [Act.put, List.setIfInBounds_toArray, List.set_cons_zero, List.set_cons_succ]
        have z0 : (World.alloc w5 zeroBox).heap[(World.heap w5).size]? = some zeroBox := heap_new w5 zeroBox
        have hYs : (World.heap w5).size < (World.alloc w5 zeroBox).heap.size := by show (World.heap w5).size < (World.alloc w5 zeroBox).heap.size; rw [World.size_alloc]; omega
        have hYX : X + 1 ≤ (World.heap w5).size := by have := H4.out.size; have := hHeld5.1.size; omega
        have hK2 := hK2.stays hb7
        clear hb7
        generalize World.alloc w5 _ = w7 at hHeld7 z0 hYs hK2 ⊢
        obtain ⟨Y, hY⟩ : ∃ Y, (World.heap w5).size = Y := ⟨_, rfl⟩
        first | rw [hY] at z0 hYs hYX ⊢ | (simp only [hY] at z0 hYs hYX ⊢)
        clear hY
        have z1 := z0
        refine wpAnyH_ready (rs := [2]) (by kernel_rfl) (by simp) ?_
        refine (AllReadyH.cons (o := { dst := some 14, op := Op.call { callee := Callee.value (Operand.func 22), args := #[Operand.tmp 12, Operand.tmp 13, Operand.const (Value.int IntKind.i64 0), Operand.const (Value.int IntKind.i64 3)], argTypes := #[22, 25, 3, 3] }, type := 35, pos := "law.go:21", after := #[{ on := 0, ground := Ground.data }, { on := 1, ground := Ground.data }, { on := 0, ground := Ground.chain }], guard := none }) rfl (fun K hK => ?_) AllReadyH.nil)
        · skip
          have hN4 := hHeld7.1.size
          go_simp
          refine (bring_any (some ⟨c2, 0, none⟩) 1 1 (wK a2 b2) (by omega) (wK_small _ _) p HSP.out 0 3 _ _ _ (wK_bring HI.out) _ hK2 (H4.out.lists.stays (by rw [H4.out.size]; exact hHeld7.1))).mono ?_
          rintro e w6 ⟨q, rfl, hQ, hq4, hn2⟩
          try go_wp2_with fail
          have hS6 := ks_keep H4.out hHeld7.1 hn2
          have z2 := after_two z1 hn2
          have hNE : ∀ v g, v = lv q.st ∨ v = lv q.re ∨ v = lv q.ma ∨ v = lv q.mo → v.ownBlock = some g → g ≠ Y := fun v g h1 h2 => by have := (r4_lt hq4 v g h1 h2).1; omega
          refine hK.out _ _ hS6 (fun hHeld6 => ?_)
          clear hK K hS6
          try simp only [Act.put, List.setIfInBounds_toArray, List.set_cons_zero, List.set_cons_succ]
          refine wpAnyH_take (i := 3) (oi := { dst := some 11, op := Op.move (Operand.tmp 14), type := 35, pos := "law.go:21", after := #[{ on := 2, ground := Ground.data }], guard := none }) (v := ?_) rfl (by kernel_rfl) (by kernel_rfl) (by kernel_rfl) (fun _ _ _ h => h) (Or.inl ⟨by rfl, ?_⟩) hHeld6 ?_
          rotate_left
          · intro w hSw; (try dsimp only at hSw); go_simp; try (with_reducible rfl)
          try simp only [Act.put, List.setIfInBounds_toArray, List.set_cons_zero, List.set_cons_succ]
          refine wpAnyH_take (i := 4) (oi := { dst := some 15, op := Op.extract (Operand.tmp 11) 0, type := 25, pos := "law.go:21", after := #[{ on := 3, ground := Ground.data }], guard := none }) (v := ?_) rfl (by kernel_rfl) (by kernel_rfl) (by kernel_rfl) (fun _ _ _ h => h) (Or.inl ⟨by rfl, ?_⟩) hHeld6 ?_
          rotate_left
          · intro w hSw; (try dsimp only at hSw); go_simp; try (with_reducible rfl)
          try simp only [Act.put, List.setIfInBounds_toArray, List.set_cons_zero, List.set_cons_succ]
          refine wpAnyH_take (i := 5) (oi := { dst := some 16, op := Op.extract (Operand.tmp 11) 1, type := 3, pos := "law.go:21", after := #[{ on := 3, ground := Ground.data }, { on := 8, ground := Ground.gcOnly Departure.lateStores }], guard := none }) (v := ?_) rfl (by kernel_rfl) (by kernel_rfl) (by kernel_rfl) (fun _ _ _ h => h) (Or.inl ⟨by rfl, ?_⟩) hHeld6 ?_
          rotate_left
          · intro w hSw; (try dsimp only at hSw); go_simp; try (with_reducible rfl)
          try simp only [Act.put, List.setIfInBounds_toArray, List.set_cons_zero, List.set_cons_succ]
          refine wpAnyH_take (i := 6) (oi := { dst := some 17, op := Op.extract (Operand.tmp 11) 2, type := 28, pos := "law.go:21", after := #[{ on := 3, ground := Ground.data }, { on := 9, ground := Ground.gcOnly Departure.lateStores }], guard := none }) (v := ?_) rfl (by kernel_rfl) (by kernel_rfl) (by kernel_rfl) (fun _ _ _ h => h) (Or.inl ⟨by rfl, ?_⟩) hHeld6 ?_
          rotate_left
          · intro w hSw; (try dsimp only at hSw); go_simp; try (with_reducible rfl)
          try simp only [Act.put, List.setIfInBounds_toArray, List.set_cons_zero, List.set_cons_succ]
          refine wpAnyH_ready (rs := [8]) (by kernel_rfl) (by simp) ?_
          refine (AllReadyH.cons (o := { dst := none, op := Op.store 25 (Operand.tmp 3) (Operand.tmp 15), type := 0, pos := "law.go:21", after := #[{ on := 7, ground := Ground.data }, { on := 4, ground := Ground.data }, { on := 2, ground := Ground.chain }, { on := 0, ground := Ground.phase }, { on := 1, ground := Ground.phase }, { on := 2, ground := Ground.phase }, { on := 3, ground := Ground.phase }, { on := 4, ground := Ground.phase }, { on := 5, ground := Ground.textOnly Departure.lateStores }, { on := 6, ground := Ground.textOnly Departure.lateStores }, { on := 7, ground := Ground.phase }], guard := none }) rfl (fun K hK => ?_) AllReadyH.nil)
          · skip
            have y0 := zb0 z2
            have y1 := zb1 z2
            have y2 := zb2 z2
            have y3 := zb3 z2
            have y4 := zb4 z2
            have y5 := zb5 z2
            have y6 := zb6 z2
            have y7 := zb7 z2
            have y8 := zb8 z2
            have y9 := zb9 z2
            have yf := zbf z2
            have hS8 := ks_store H4.out hHeld6.1 hYX q
            have HKF := hid (kf_made H4.out hHeld6.1 hYX z2 hq4 (by have h1 := H4.out.le; have h2 := H4.out.size; omega) hNE)
            go_simp
            refine hK.out _ _ hS8 (fun hHeld8 => ?_)
            clear hK K hS8 y0 y1 y2 y3 y4 y5 y6 y7 y8 y9 yf
            try simp only [Act.put, List.setIfInBounds_toArray, List.set_cons_zero, List.set_cons_succ]
            refine wpAnyH_take (i := 9) (oi := { dst := some 4, op := Op.assign (Operand.tmp 16), type := 3, pos := "law.go:21", after := #[{ on := 5, ground := Ground.data }, { on := 8, ground := Ground.chain }, { on := 0, ground := Ground.phase }, { on := 1, ground := Ground.phase }, { on := 2, ground := Ground.phase }, { on := 3, ground := Ground.phase }, { on := 4, ground := Ground.phase }, { on := 5, ground := Ground.phase }, { on := 6, ground := Ground.textOnly Departure.lateStores }, { on := 7, ground := Ground.phase }, { on := 8, ground := Ground.phase }], guard := none }) (v := ?_) rfl (by kernel_rfl) (by kernel_rfl) (by kernel_rfl) (fun _ _ _ h => h) (Or.inl ⟨by rfl, ?_⟩) hHeld8 ?_
            rotate_left
            · intro w hSw; (try dsimp only at hSw); go_simp; try (with_reducible rfl)
            try simp only [Act.put, List.setIfInBounds_toArray, List.set_cons_zero, List.set_cons_succ]
            refine wpAnyH_take (i := 10) (oi := { dst := some 5, op := Op.assign (Operand.tmp 17), type := 28, pos := "law.go:21", after := #[{ on := 6, ground := Ground.data }, { on := 9, ground := Ground.chain }, { on := 0, ground := Ground.phase }, { on := 1, ground := Ground.phase }, { on := 2, ground := Ground.phase }, { on := 3, ground := Ground.phase }, { on := 4, ground := Ground.phase }, { on := 5, ground := Ground.phase }, { on := 6, ground := Ground.phase }, { on := 7, ground := Ground.phase }, { on := 8, ground := Ground.phase }, { on := 9, ground := Ground.phase }], guard := none }) (v := ?_) rfl (by kernel_rfl) (by kernel_rfl) (by kernel_rfl) (fun _ _ _ h => h) (Or.inl ⟨by rfl, ?_⟩) hHeld8 ?_
            rotate_left
            · intro w hSw; (try dsimp only at hSw); go_simp; try (with_reducible rfl)
            try simp only [Act.put, List.setIfInBounds_toArray, List.set_cons_zero, List.set_cons_succ]
            refine wpAnyH_done (by kernel_rfl) ?_ _
            go_wp2_with fail
            go_meet
            exact ⟨q, Y, rfl, rfl, rfl, hid ⟨hQ, HKF.out⟩⟩
    · skip
      go_simp
      have hS7 := ks_keep H4.out (Below.refl (X + 1) w4) (((Below.refl w4.heap.size w4).alloc (Nat.le_refl _) zeroBox).drew)
      refine hK.out _ _ hS7 (fun hHeld7 => ?_)
      clear hK K hS7
      try simp only [Act.put, List.setIfInBounds_toArray, List.set_cons_zero, List.set_cons_succ]
      have z0 : (World.drew (World.alloc w4 zeroBox)).heap[(World.heap w4).size]? = some zeroBox := heap_new w4 zeroBox
      have hYs : (World.heap w4).size < (World.drew (World.alloc w4 zeroBox)).heap.size := by show (World.heap w4).size < (World.alloc w4 zeroBox).heap.size; rw [World.size_alloc]; omega
      have hYX : X + 1 ≤ (World.heap w4).size := by have := H4.out.size; omega
      generalize World.drew (World.alloc w4 _) = w7 at hHeld7 z0 hYs ⊢
      obtain ⟨Y, hY⟩ : ∃ Y, (World.heap w4).size = Y := ⟨_, rfl⟩
      first | rw [hY] at z0 hYs hYX ⊢ | (simp only [hY] at z0 hYs hYX ⊢)
      clear hY
      refine wpAnyH_ready (rs := [0]) (by kernel_rfl) (by simp) ?_
      refine (AllReadyH.cons (o := { dst := some 12, op := Op.call { callee := Callee.value (Operand.func 32), args := #[], argTypes := #[] }, type := 22, pos := "law.go:21", after := #[], guard := none }) rfl (fun K hK => ?_) AllReadyH.nil)
      · skip
        go_simp
        refine (works_any _).mono ?_
        rintro e w5 ⟨a2, b2, c2, rfl, hK2, hn⟩
        try go_wp2_with fail
        have hS5 := ks_keep H4.out hHeld7.1 hn
        have z1 := after_two z0 hn
        have hYs := Nat.lt_of_lt_of_le hYs hn.size
        refine hK.out _ _ hS5 (fun hHeld5 => ?_)
        clear hK K hS5
        try simp only [Act.put, List.setIfInBounds_toArray, List.set_cons_zero, List.set_cons_succ]
        refine wpAnyH_ready (rs := [2]) (by kernel_rfl) (by simp) ?_
        refine (AllReadyH.cons (o := { dst := some 14, op := Op.call { callee := Callee.value (Operand.func 22), args := #[Operand.tmp 12, Operand.tmp 13, Operand.const (Value.int IntKind.i64 0), Operand.const (Value.int IntKind.i64 3)], argTypes := #[22, 25, 3, 3] }, type := 35, pos := "law.go:21", after := #[{ on := 0, ground := Ground.data }, { on := 1, ground := Ground.data }, { on := 0, ground := Ground.chain }], guard := none }) rfl (fun K hK => ?_) AllReadyH.nil)
        · skip
          have hN4 := hHeld5.1.size
          go_simp
          refine (bring_any (some ⟨c2, 0, none⟩) 1 1 (wK a2 b2) (by omega) (wK_small _ _) p HSP.out 0 3 _ _ _ (wK_bring HI.out) _ hK2 (H4.out.lists.stays (by rw [H4.out.size]; exact hHeld5.1))).mono ?_
          rintro e w6 ⟨q, rfl, hQ, hq4, hn2⟩
          try go_wp2_with fail
          have hS6 := ks_keep H4.out hHeld5.1 hn2
          have z2 := after_two z1 hn2
          have hNE : ∀ v g, v = lv q.st ∨ v = lv q.re ∨ v = lv q.ma ∨ v = lv q.mo → v.ownBlock = some g → g ≠ Y := fun v g h1 h2 => by have := (r4_lt hq4 v g h1 h2).1; omega
          refine hK.out _ _ hS6 (fun hHeld6 => ?_)
          clear hK K hS6
          try simp only [Act.put, List.setIfInBounds_toArray, List.set_cons_zero, List.set_cons_succ]
          refine wpAnyH_take (i := 3) (oi := { dst := some 11, op := Op.move (Operand.tmp 14), type := 35, pos := "law.go:21", after := #[{ on := 2, ground := Ground.data }], guard := none }) (v := ?_) rfl (by kernel_rfl) (by kernel_rfl) (by kernel_rfl) (fun _ _ _ h => h) (Or.inl ⟨by rfl, ?_⟩) hHeld6 ?_
          rotate_left
          · intro w hSw; (try dsimp only at hSw); go_simp; try (with_reducible rfl)
          try simp only [Act.put, List.setIfInBounds_toArray, List.set_cons_zero, List.set_cons_succ]
          refine wpAnyH_take (i := 4) (oi := { dst := some 15, op := Op.extract (Operand.tmp 11) 0, type := 25, pos := "law.go:21", after := #[{ on := 3, ground := Ground.data }], guard := none }) (v := ?_) rfl (by kernel_rfl) (by kernel_rfl) (by kernel_rfl) (fun _ _ _ h => h) (Or.inl ⟨by rfl, ?_⟩) hHeld6 ?_
          rotate_left
          · intro w hSw; (try dsimp only at hSw); go_simp; try (with_reducible rfl)
          try simp only [Act.put, List.setIfInBounds_toArray, List.set_cons_zero, List.set_cons_succ]
          refine wpAnyH_take (i := 5) (oi := { dst := some 16, op := Op.extract (Operand.tmp 11) 1, type := 3, pos := "law.go:21", after := #[{ on := 3, ground := Ground.data }, { on := 8, ground := Ground.gcOnly Departure.lateStores }], guard := none }) (v := ?_) rfl (by kernel_rfl) (by kernel_rfl) (by kernel_rfl) (fun _ _ _ h => h) (Or.inl ⟨by rfl, ?_⟩) hHeld6 ?_
          rotate_left
          · intro w hSw; (try dsimp only at hSw); go_simp; try (with_reducible rfl)
          try simp only [Act.put, List.setIfInBounds_toArray, List.set_cons_zero, List.set_cons_succ]
          refine wpAnyH_take (i := 6) (oi := { dst := some 17, op := Op.extract (Operand.tmp 11) 2, type := 28, pos := "law.go:21", after := #[{ on := 3, ground := Ground.data }, { on := 9, ground := Ground.gcOnly Departure.lateStores }], guard := none }) (v := ?_) rfl (by kernel_rfl) (by kernel_rfl) (by kernel_rfl) (fun _ _ _ h => h) (Or.inl ⟨by rfl, ?_⟩) hHeld6 ?_
          rotate_left
          · intro w hSw; (try dsimp only at hSw); go_simp; try (with_reducible rfl)
          try simp only [Act.put, List.setIfInBounds_toArray, List.set_cons_zero, List.set_cons_succ]
          refine wpAnyH_ready (rs := [8]) (by kernel_rfl) (by simp) ?_
          refine (AllReadyH.cons (o := { dst := none, op := Op.store 25 (Operand.tmp 3) (Operand.tmp 15), type := 0, pos := "law.go:21", after := #[{ on := 7, ground := Ground.data }, { on := 4, ground := Ground.data }, { on := 2, ground := Ground.chain }, { on := 0, ground := Ground.phase }, { on := 1, ground := Ground.phase }, { on := 2, ground := Ground.phase }, { on := 3, ground := Ground.phase }, { on := 4, ground := Ground.phase }, { on := 5, ground := Ground.textOnly Departure.lateStores }, { on := 6, ground := Ground.textOnly Departure.lateStores }, { on := 7, ground := Ground.phase }], guard := none }) rfl (fun K hK => ?_) AllReadyH.nil)
          · skip
            have y0 := zb0 z2
            have y1 := zb1 z2
            have y2 := zb2 z2
            have y3 := zb3 z2
            have y4 := zb4 z2
            have y5 := zb5 z2
            have y6 := zb6 z2
            have y7 := zb7 z2
            have y8 := zb8 z2
            have y9 := zb9 z2
            have yf := zbf z2
            have hS8 := ks_store H4.out hHeld6.1 hYX q
            have HKF := hid (kf_made H4.out hHeld6.1 hYX z2 hq4 (by have h1 := H4.out.le; have h2 := H4.out.size; omega) hNE)
            go_simp
            refine hK.out _ _ hS8 (fun hHeld8 => ?_)
            clear hK K hS8 y0 y1 y2 y3 y4 y5 y6 y7 y8 y9 yf
            try simp only [Act.put, List.setIfInBounds_toArray, List.set_cons_zero, List.set_cons_succ]
            refine wpAnyH_take (i := 9) (oi := { dst := some 4, op := Op.assign (Operand.tmp 16), type := 3, pos := "law.go:21", after := #[{ on := 5, ground := Ground.data }, { on := 8, ground := Ground.chain }, { on := 0, ground := Ground.phase }, { on := 1, ground := Ground.phase }, { on := 2, ground := Ground.phase }, { on := 3, ground := Ground.phase }, { on := 4, ground := Ground.phase }, { on := 5, ground := Ground.phase }, { on := 6, ground := Ground.textOnly Departure.lateStores }, { on := 7, ground := Ground.phase }, { on := 8, ground := Ground.phase }], guard := none }) (v := ?_) rfl (by kernel_rfl) (by kernel_rfl) (by kernel_rfl) (fun _ _ _ h => h) (Or.inl ⟨by rfl, ?_⟩) hHeld8 ?_
            rotate_left
            · intro w hSw; (try dsimp only at hSw); go_simp; try (with_reducible rfl)
            try simp only [Act.put, List.setIfInBounds_toArray, List.set_cons_zero, List.set_cons_succ]
            refine wpAnyH_take (i := 10) (oi := { dst := some 5, op := Op.assign (Operand.tmp 17), type := 28, pos := "law.go:21", after := #[{ on := 6, ground := Ground.data }, { on := 9, ground := Ground.chain }, { on := 0, ground := Ground.phase }, { on := 1, ground := Ground.phase }, { on := 2, ground := Ground.phase }, { on := 3, ground := Ground.phase }, { on := 4, ground := Ground.phase }, { on := 5, ground := Ground.phase }, { on := 6, ground := Ground.phase }, { on := 7, ground := Ground.phase }, { on := 8, ground := Ground.phase }, { on := 9, ground := Ground.phase }], guard := none }) (v := ?_) rfl (by kernel_rfl) (by kernel_rfl) (by kernel_rfl) (fun _ _ _ h => h) (Or.inl ⟨by rfl, ?_⟩) hHeld8 ?_
            rotate_left
            · intro w hSw; (try dsimp only at hSw); go_simp; try (with_reducible rfl)
            try simp only [Act.put, List.setIfInBounds_toArray, List.set_cons_zero, List.set_cons_succ]
            refine wpAnyH_done (by kernel_rfl) ?_ _
            go_wp2_with fail
            go_meet
            exact ⟨q, Y, rfl, rfl, rfl, hid ⟨hQ, HKF.out⟩⟩
  case rest =>
    obtain ⟨q, Y, rfl, rfl, rfl, HQ⟩ := hcut
    have hp := HI.out
    have hq := HQ.out.1
    have s0 : p.st.Z 0 = 0 := hp.st.at' 0 (by show 0 < 1; omega)
    have r0 : p.re.Z 0 = 0 := hp.re.at' 0 (by show 0 < 1; omega)
    have s1 : q.st.Z 0 = 1 := by
      rw [hq.st.at' 0 (by show 0 < 1; omega)]
      show min (p.st.Z 0 + (p.re.Z 0 + 3 * 4) / 8) 1000000 = 1
      rw [s0, r0]; rfl
    have r1 : q.re.Z 0 = 4 := by
      rw [hq.re.at' 0 (by show 0 < 1; omega)]
      show (p.re.Z 0 + 3 * 4) % 8 = 4
      rw [r0]; rfl
    have n1 : q.st.n = 1 := hq.st.len
    have n2 : q.re.n = 1 := hq.re.len
    have c1 : wc.cell? ⟨X, 1, none⟩ = some (.int .i64 7) := by rw [cell_of_row _ X 1 _ _ _ HQ.out.2.bx]; show some (Value.int .i64 p.t) = _; rw [hp.t]; rfl
    have c2 : wc.cell? ⟨X, 2, none⟩ = some (.int .i64 16) := by rw [cell_of_row _ X 2 _ _ _ HQ.out.2.bx]; show some (Value.int .i64 p.l) = _; rw [hp.l]; rfl
    have c9 : wc.cell? ⟨X, 9, none⟩ = some (.bool true) := by rw [cell_of_row _ X 9 _ _ _ HQ.out.2.bx]; show some (Value.bool p.o) = _; rw [hp.o]; rfl
    obtain ⟨b1, o1, e1, _, i1⟩ := iat (RowI.ints HQ.out.2.r4.st) (j := 0) (by rw [n1]; omega)
    obtain ⟨b2, o2, e2, _, i2⟩ := iat (RowI.ints HQ.out.2.r4.re) (j := 0) (by rw [n2]; omega)
    have d3 : wc.cell? ⟨Y, 3, none⟩ = some (.slice (some ⟨b1, o1, none⟩) 1 q.st.c) := by rw [cell_of_row _ Y 3 _ _ _ HQ.out.2.by']; show some (Value.slice q.st.a q.st.n q.st.c) = _; rw [e1, n1]
    have d4 : wc.cell? ⟨Y, 4, none⟩ = some (.slice (some ⟨b2, o2, none⟩) 1 q.re.c) := by rw [cell_of_row _ Y 4 _ _ _ HQ.out.2.by']; show some (Value.slice q.re.a q.re.n q.re.c) = _; rw [e2, n2]
    rw [s1] at i1
    rw [r1] at i2
    simp only [Nat.add_zero] at i1 i2
    have HE := hid HQ.out.2.below
    clear hp hq s0 r0 s1 r1 n1 n2 e1 e2
    go_wp2_with fail
    go_ret
    exact ⟨rfl, HE.out⟩
end Go.Proofs.Ytnhkblkijiipeaa
