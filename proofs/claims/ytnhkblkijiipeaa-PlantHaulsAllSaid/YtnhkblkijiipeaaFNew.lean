/-
  The walk of New.
-/
import Derived.Test.YtnhkblkijiipeaaFDat
namespace Go.Proofs.Ytnhkblkijiipeaa
open Go.RowKit

/-- What lies in memory of a call that hands back a plant: its result's box at B. -/
structure NB (B : Nat) (w wr : World) : Prop where
  below : Below B w wr
  le : B < wr.heap.size
  br : wr.heap[B]? = some (.cells #[.int .i64 0, .int .i64 0, .int .i64 0, .slice none 0 0, .slice none 0 0, .slice none 0 0, .slice none 0 0, .int .i64 0, .int .i64 0, .bool false] 25 (0, 0))
theorem NB.stays {B : Nat} {w wr w' : World} (h : NB B w wr) (hb : Below wr.heap.size wr w') : NB B w w' := ⟨h.below.trans (hb.mono (by have := h.le; omega)), by have := h.le; have := hb.size; omega, (hb.block _ h.le).trans h.br⟩
theorem NB.start (w : World) : NB w.heap.size w (w.alloc (.cells #[.int .i64 0, .int .i64 0, .int .i64 0, .slice none 0 0, .slice none 0 0, .slice none 0 0, .slice none 0 0, .int .i64 0, .int .i64 0, .bool false] 25)) := ⟨Joins.below_alloc1 _ _, by rw [World.size_alloc]; omega, heap_new _ _⟩
/-- A new plant. -/
def newD (kind tile : Int) (n : Nat) : Da := ⟨kind, tile, 16, n, fun _ => 0, fun _ => 0, fun _ => 0, fun _ => 0, 0, 0, true⟩
/-- The error of New, and what it hands back. -/
def NwErr (m : Nat) (K : Nat → Kd) (kind tile : Int) : Int := if KErr m K ≠ 0 then KErr m K else if inB 0 kind (m - 1) = false then 2 else if inB 0 tile 1000000 = false then 1 else 0
def NwD (m : Nat) (K : Nat → Kd) (kind tile : Int) : Da := if NwErr m K kind tile = 0 then newD kind tile (K kind.toNat).mn else zeroD
/-- A plant and an error. -/
def PPost (d : Da) (r : Int) (w : World) (e : Ending) (w' : World) : Prop := ∃ p, e = .returned (.tuple #[pv p, .int .i64 r]) ∧ Is p d ∧ PlAt w' p ∧ Below w.heap.size w w'
theorem nw_k {m : Nat} {K : Nat → Kd} {kind tile f : Int} (h : KErr m K = f) (h0 : ¬ f = 0) : NwErr m K kind tile = f ∧ NwD m K kind tile = zeroD := by
  have : NwErr m K kind tile = f := by unfold NwErr; rw [h, if_pos h0]
  exact ⟨this, by unfold NwD; rw [this, if_neg h0]⟩
theorem nw_2 {m : Nat} {K : Nat → Kd} {kind tile : Int} (h : KErr m K = 0) (h1 : inB 0 kind (m - 1) = false) : NwErr m K kind tile = 2 ∧ NwD m K kind tile = zeroD := by
  have : NwErr m K kind tile = 2 := by unfold NwErr; rw [if_neg (by simpa using h), if_pos h1]
  exact ⟨this, by unfold NwD; rw [this, if_neg (by decide)]⟩
theorem nw_1 {m : Nat} {K : Nat → Kd} {kind tile : Int} (h : KErr m K = 0) (h1 : inB 0 kind (m - 1) = true) (h2 : inB 0 tile 1000000 = false) : NwErr m K kind tile = 1 ∧ NwD m K kind tile = zeroD := by
  have : NwErr m K kind tile = 1 := by unfold NwErr; rw [if_neg (by simpa using h), if_neg (by rw [h1]; simp), if_pos h2]
  exact ⟨this, by unfold NwD; rw [this, if_neg (by decide)]⟩
theorem nw_0 {m k : Nat} {K : Nat → Kd} {tile : Int} (h : KErr m K = 0) (h1 : inB 0 (k : Int) (m - 1) = true) (h2 : inB 0 tile 1000000 = true) : NwErr m K k tile = 0 ∧ NwD m K k tile = newD k tile (K k).mn := by
  have : NwErr m K (k : Int) tile = 0 := by unfold NwErr; rw [if_neg (by simpa using h), if_neg (by rw [h1]; simp), if_neg (by rw [h2]; simp)]
  exact ⟨this, by unfold NwD; rw [this, if_pos rfl, Int.toNat_natCast]⟩
theorem four_alloc (w : World) (o : Obj) (i : Nat) (hi : i < 4) : ((((w.alloc o).alloc o).alloc o).alloc o).heap[w.heap.size + i]? = some o := by
  have h : ∀ (w : World) (o : Obj), (w.alloc o).heap = w.heap.push o := fun _ _ => rfl
  rw [h, h, h, h]
  simp only [Array.getElem?_push, Array.size_push]
  have : i = 0 ∨ i = 1 ∨ i = 2 ∨ i = 3 := by omega
  rcases this with rfl | rfl | rfl | rfl <;> simp
/-- What New has made: the result's box, four lists of zeros. -/
def NF (kind tile : Int) (n : Nat) (B : Nat) (w wr : World) : Prop := ∃ a1 a2 a3 a4 : Nat, Below B w wr ∧ wr.heap[B]? = some (.cells #[.int .i64 kind, .int .i64 tile, .int .i64 16, .slice (some ⟨a1, 0, none⟩) n n, .slice (some ⟨a2, 0, none⟩) n n, .slice (some ⟨a3, 0, none⟩) n n, .slice (some ⟨a4, 0, none⟩) n n, .int .i64 0, .int .i64 0, .bool true] 25 (0, 0)) ∧
  Ints wr (some ⟨a1, 0, none⟩) n (fun _ => 0) ∧ Ints wr (some ⟨a2, 0, none⟩) n (fun _ => 0) ∧ Ints wr (some ⟨a3, 0, none⟩) n (fun _ => 0) ∧ Ints wr (some ⟨a4, 0, none⟩) n (fun _ => 0)
theorem made_ints {W : World} {a n : Nat} (h : W.heap[a]? = some (.cells (madeCells #[.int .i64 0] n) 3 (0, 0))) {W' : World} (hW : W'.heap[a]? = W.heap[a]?) : Ints W' (some ⟨a, 0, none⟩) n (fun _ => 0) := fun j hj => by
  have h' := hW.trans h
  refine ⟨a, 0, rfl, heap_lt h', ?_⟩
  rw [Nat.zero_add, cell_of_row _ a j _ _ _ h', ← Array.getElem?_toList, made_one, vals_get _ hj]
theorem nf_fin {B n : Nat} {w W : World} {kind tile : Int} {a1 a2 a3 a4 : Nat} (hb : Below B w W) (hB : W.heap[B]? = some (.cells #[.int .i64 0, .int .i64 0, .int .i64 0, .slice none 0 0, .slice none 0 0, .slice none 0 0, .slice none 0 0, .int .i64 0, .int .i64 0, .bool false] 25 (0, 0)))
    (h1 : W.heap[a1]? = some (.cells (madeCells #[.int .i64 0] n) 3 (0, 0))) (h2 : W.heap[a2]? = some (.cells (madeCells #[.int .i64 0] n) 3 (0, 0))) (h3 : W.heap[a3]? = some (.cells (madeCells #[.int .i64 0] n) 3 (0, 0))) (h4 : W.heap[a4]? = some (.cells (madeCells #[.int .i64 0] n) 3 (0, 0))) :
    NF kind tile n B w (((((((((((W.setCell ⟨B, 0, none⟩ (.int .i64 kind)).setCell ⟨B, 1, none⟩ (.int .i64 tile)).setCell ⟨B, 2, none⟩ (.int .i64 16)).setCell ⟨B, 3, none⟩ (.slice (some ⟨a1, 0, none⟩) n n)).setCell ⟨B, 4, none⟩ (.slice (some ⟨a2, 0, none⟩) n n)).setCell ⟨B, 5, none⟩ (.slice (some ⟨a3, 0, none⟩) n n)).setCell ⟨B, 6, none⟩ (.slice (some ⟨a4, 0, none⟩) n n)).setCell ⟨B, 7, none⟩ (.int .i64 0)).setCell ⟨B, 8, none⟩ (.int .i64 0)).setCell ⟨B, 9, none⟩ (.bool true)).drew) := by
  have ne : ∀ a, W.heap[a]? = some (.cells (madeCells #[.int .i64 0] n) 3 (0, 0)) → a ≠ B := fun a h e => by
    subst e; rw [h] at hB
    injection hB with e1
    injection e1 with e2 e3 e4
    exact absurd e3 (by decide)
  have e1 := set10_below hb (Nat.le_refl B) (.int .i64 kind) (.int .i64 tile) (.int .i64 16) (.slice (some ⟨a1, 0, none⟩) n n) (.slice (some ⟨a2, 0, none⟩) n n) (.slice (some ⟨a3, 0, none⟩) n n) (.slice (some ⟨a4, 0, none⟩) n n) (.int .i64 0) (.int .i64 0) (.bool true)
  have e2 := set10 hB (.int .i64 kind) (.int .i64 tile) (.int .i64 16) (.slice (some ⟨a1, 0, none⟩) n n) (.slice (some ⟨a2, 0, none⟩) n n) (.slice (some ⟨a3, 0, none⟩) n n) (.slice (some ⟨a4, 0, none⟩) n n) (.int .i64 0) (.int .i64 0) (.bool true)
  have e3 : ∀ k, k ≠ B → (((((((((((W.setCell ⟨B, 0, none⟩ (.int .i64 kind)).setCell ⟨B, 1, none⟩ (.int .i64 tile)).setCell ⟨B, 2, none⟩ (.int .i64 16)).setCell ⟨B, 3, none⟩ (.slice (some ⟨a1, 0, none⟩) n n)).setCell ⟨B, 4, none⟩ (.slice (some ⟨a2, 0, none⟩) n n)).setCell ⟨B, 5, none⟩ (.slice (some ⟨a3, 0, none⟩) n n)).setCell ⟨B, 6, none⟩ (.slice (some ⟨a4, 0, none⟩) n n)).setCell ⟨B, 7, none⟩ (.int .i64 0)).setCell ⟨B, 8, none⟩ (.int .i64 0)).setCell ⟨B, 9, none⟩ (.bool true))).heap[k]? = W.heap[k]? := fun k h => set10_other (.int .i64 kind) (.int .i64 tile) (.int .i64 16) (.slice (some ⟨a1, 0, none⟩) n n) (.slice (some ⟨a2, 0, none⟩) n n) (.slice (some ⟨a3, 0, none⟩) n n) (.slice (some ⟨a4, 0, none⟩) n n) (.int .i64 0) (.int .i64 0) (.bool true) h
  generalize (World.setCell _ ⟨B, 9, none⟩ _) = W' at e1 e2 e3 ⊢
  unfold NF
  exact ⟨a1, a2, a3, a4, e1.drew, e2, made_ints h1 (W' := W'.drew) (e3 _ (ne _ h1)), made_ints h2 (W' := W'.drew) (e3 _ (ne _ h2)), made_ints h3 (W' := W'.drew) (e3 _ (ne _ h3)), made_ints h4 (W' := W'.drew) (e3 _ (ne _ h4))⟩
set_option maxRecDepth 100000 in
set_option maxHeartbeats 12800000 in
theorem new_any (ko : Option Addr) (m kc : Nat) (K : Nat → Kd) (hm : m ≤ 1000) (hs : Small m K) (kind tile : Int) (d : Da) (r : Int) (hr : NwErr m K kind tile = r ∧ NwD m K kind tile = d) (w : World) (hK : Kds w ko m K) :
    Calls Try.prog 17 #[.slice ko m kc, .int .i64 kind, .int .i64 tile] w (PPost d r w) := by
  have H0 := hid (NB.start w)
  have HKD := hid (hK.stays (Joins.below_alloc1 w (.cells #[.int .i64 0, .int .i64 0, .int .i64 0, .slice none 0 0, .slice none 0 0, .slice none 0 0, .slice none 0 0, .int .i64 0, .int .i64 0, .bool false] 25)))
  have HR0 := hid hr
  have HSM := hid hs
  obtain ⟨f, hf⟩ : ∃ f, KErr m K = f := ⟨_, rfl⟩
  have HKF := hid hf
  have HVK := hid (fun W h => vkinds_any ko m kc K HSM.out W h)
  rw [hf] at HVK
  obtain ⟨B, hB⟩ : ∃ B, w.heap.size = B := ⟨_, rfl⟩
  unfold PPost
  rw [hB] at H0 ⊢
  clear hf hr hK hs
  by_cases h0 : f = 0
  · subst h0
    have hw1 : IntKind.i64.wrap ((m : Int) - 1) = (m : Int) - 1 := by rw [IntKind.wrap_i64]; omega
    cases hk : inB 0 kind ((m : Int) - 1)
    · have HR := hid (show d = zeroD ∧ r = 2 from by have h := nw_2 (tile := tile) HKF.out hk; exact ⟨HR0.out.2.symm.trans h.2, HR0.out.1.symm.trans h.1⟩)
      rw [HR.out.1, HR.out.2]
      have HW := hid (fun W => within_any 0 kind ((m : Int) - 1) false hk W)
      go_enter Try.func17, Try.ntmps17
      go_upto_region 1 with fail
      generalize World.alloc w _ = w1 at H0 HKD ⊢
      go_upto_region 2 with (go_at_call 33; refine (HVK.out _ HKD.out).mono ?_; rintro e w2 ⟨rfl, hb⟩; have H1 := hid (H0.out.stays hb); have HK1 := hid (HKD.out.stays hb); clear hb)
      have r0 : World.cell? _ ⟨B, 0, none⟩ = some (.int .i64 0) := cell_of_row _ (B) 0 _ _ _ H1.out.br
      have r1 : World.cell? _ ⟨B, 1, none⟩ = some (.int .i64 0) := cell_of_row _ (B) 1 _ _ _ H1.out.br
      have r2 : World.cell? _ ⟨B, 2, none⟩ = some (.int .i64 0) := cell_of_row _ (B) 2 _ _ _ H1.out.br
      have r3 : World.cell? _ ⟨B, 3, none⟩ = some (.slice none 0 0) := cell_of_row _ (B) 3 _ _ _ H1.out.br
      have r4 : World.cell? _ ⟨B, 4, none⟩ = some (.slice none 0 0) := cell_of_row _ (B) 4 _ _ _ H1.out.br
      have r5 : World.cell? _ ⟨B, 5, none⟩ = some (.slice none 0 0) := cell_of_row _ (B) 5 _ _ _ H1.out.br
      have r6 : World.cell? _ ⟨B, 6, none⟩ = some (.slice none 0 0) := cell_of_row _ (B) 6 _ _ _ H1.out.br
      have r7 : World.cell? _ ⟨B, 7, none⟩ = some (.int .i64 0) := cell_of_row _ (B) 7 _ _ _ H1.out.br
      have r8 : World.cell? _ ⟨B, 8, none⟩ = some (.int .i64 0) := cell_of_row _ (B) 8 _ _ _ H1.out.br
      have r9 : World.cell? _ ⟨B, 9, none⟩ = some (.bool false) := cell_of_row _ (B) 9 _ _ _ H1.out.br
      have fz : ∀ j, World.frozen? _ ⟨B, j, none⟩ = false := fun j => frozen_of_row _ (B) j _ _ H1.out.br
      have hle := H1.out.le
      go_wp2_with (go_at_call 34; refine (HW.out _).mono ?_; rintro e w3 ⟨rfl, rfl⟩)
      skip
      have k1 := set10 H1.out.br (.int .i64 0) (.int .i64 0) (.int .i64 0) (.slice none 0 0) (.slice none 0 0) (.slice none 0 0) (.slice none 0 0) (.int .i64 0) (.int .i64 0) (.bool false)
      have k2 := set10_below (g := B) H1.out.below (Nat.le_refl _) (.int .i64 0) (.int .i64 0) (.int .i64 0) (.slice none 0 0) (.slice none 0 0) (.slice none 0 0) (.slice none 0 0) (.int .i64 0) (.int .i64 0) (.bool false)
      clear r0 r1 r2 r3 r4 r5 r6 r7 r8 r9 fz hle
      generalize World.setCell (World.setCell _ _ _) _ _ = w6 at k1 k2 ⊢
      have q0 : w6.cell? ⟨B, 0, none⟩ = some (.int .i64 0) := cell_of_row _ B 0 _ _ _ k1
      have q1 : w6.cell? ⟨B, 1, none⟩ = some (.int .i64 0) := cell_of_row _ B 1 _ _ _ k1
      have q2 : w6.cell? ⟨B, 2, none⟩ = some (.int .i64 0) := cell_of_row _ B 2 _ _ _ k1
      have q3 : w6.cell? ⟨B, 3, none⟩ = some (.slice none 0 0) := cell_of_row _ B 3 _ _ _ k1
      have q4 : w6.cell? ⟨B, 4, none⟩ = some (.slice none 0 0) := cell_of_row _ B 4 _ _ _ k1
      have q5 : w6.cell? ⟨B, 5, none⟩ = some (.slice none 0 0) := cell_of_row _ B 5 _ _ _ k1
      have q6 : w6.cell? ⟨B, 6, none⟩ = some (.slice none 0 0) := cell_of_row _ B 6 _ _ _ k1
      have q7 : w6.cell? ⟨B, 7, none⟩ = some (.int .i64 0) := cell_of_row _ B 7 _ _ _ k1
      have q8 : w6.cell? ⟨B, 8, none⟩ = some (.int .i64 0) := cell_of_row _ B 8 _ _ _ k1
      have q9 : w6.cell? ⟨B, 9, none⟩ = some (.bool false) := cell_of_row _ B 9 _ _ _ k1
      refine bodyPost_ret (v := .tuple #[.agg #[.int .i64 0, .int .i64 0, .int .i64 0, .slice none 0 0, .slice none 0 0, .slice none 0 0, .slice none 0 0, .int .i64 0, .int .i64 0, .bool false], .int .i64 2]) (by simp [results, Try.results17, go_sem, q0, q1, q2, q3, q4, q5, q6, q7, q8, q9]) rfl ?_
      exact ⟨zeroP, rfl, zero_is, zero_at _, k2⟩
    have HWK := hid (fun W => within_any 0 kind ((m : Int) - 1) true hk W)
    cases ht : inB 0 tile 1000000
    · have HR := hid (show d = zeroD ∧ r = 1 from by have h := nw_1 (tile := tile) HKF.out hk ht; exact ⟨HR0.out.2.symm.trans h.2, HR0.out.1.symm.trans h.1⟩)
      rw [HR.out.1, HR.out.2]
      have HW := hid (fun W => within_any 0 tile 1000000 false ht W)
      go_enter Try.func17, Try.ntmps17
      go_upto_region 1 with fail
      generalize World.alloc w _ = w1 at H0 HKD ⊢
      go_upto_region 2 with (go_at_call 33; refine (HVK.out _ HKD.out).mono ?_; rintro e w2 ⟨rfl, hb⟩; have H1 := hid (H0.out.stays hb); have HK1 := hid (HKD.out.stays hb); clear hb)
      have r0 : World.cell? _ ⟨B, 0, none⟩ = some (.int .i64 0) := cell_of_row _ (B) 0 _ _ _ H1.out.br
      have r1 : World.cell? _ ⟨B, 1, none⟩ = some (.int .i64 0) := cell_of_row _ (B) 1 _ _ _ H1.out.br
      have r2 : World.cell? _ ⟨B, 2, none⟩ = some (.int .i64 0) := cell_of_row _ (B) 2 _ _ _ H1.out.br
      have r3 : World.cell? _ ⟨B, 3, none⟩ = some (.slice none 0 0) := cell_of_row _ (B) 3 _ _ _ H1.out.br
      have r4 : World.cell? _ ⟨B, 4, none⟩ = some (.slice none 0 0) := cell_of_row _ (B) 4 _ _ _ H1.out.br
      have r5 : World.cell? _ ⟨B, 5, none⟩ = some (.slice none 0 0) := cell_of_row _ (B) 5 _ _ _ H1.out.br
      have r6 : World.cell? _ ⟨B, 6, none⟩ = some (.slice none 0 0) := cell_of_row _ (B) 6 _ _ _ H1.out.br
      have r7 : World.cell? _ ⟨B, 7, none⟩ = some (.int .i64 0) := cell_of_row _ (B) 7 _ _ _ H1.out.br
      have r8 : World.cell? _ ⟨B, 8, none⟩ = some (.int .i64 0) := cell_of_row _ (B) 8 _ _ _ H1.out.br
      have r9 : World.cell? _ ⟨B, 9, none⟩ = some (.bool false) := cell_of_row _ (B) 9 _ _ _ H1.out.br
      have fz : ∀ j, World.frozen? _ ⟨B, j, none⟩ = false := fun j => frozen_of_row _ (B) j _ _ H1.out.br
      have hle := H1.out.le
      go_wp2_with (first
    | (go_at_call 34; with_reducible refine (HW.out _).mono ?_; rintro e w3 ⟨rfl, rfl⟩)
    | (go_at_call 34; with_reducible refine (HWK.out _).mono ?_; rintro e w3 ⟨rfl, rfl⟩))
      skip
      have k1 := set10 H1.out.br (.int .i64 0) (.int .i64 0) (.int .i64 0) (.slice none 0 0) (.slice none 0 0) (.slice none 0 0) (.slice none 0 0) (.int .i64 0) (.int .i64 0) (.bool false)
      have k2 := set10_below (g := B) H1.out.below (Nat.le_refl _) (.int .i64 0) (.int .i64 0) (.int .i64 0) (.slice none 0 0) (.slice none 0 0) (.slice none 0 0) (.slice none 0 0) (.int .i64 0) (.int .i64 0) (.bool false)
      clear r0 r1 r2 r3 r4 r5 r6 r7 r8 r9 fz hle
      generalize World.setCell (World.setCell _ _ _) _ _ = w6 at k1 k2 ⊢
      have q0 : w6.cell? ⟨B, 0, none⟩ = some (.int .i64 0) := cell_of_row _ B 0 _ _ _ k1
      have q1 : w6.cell? ⟨B, 1, none⟩ = some (.int .i64 0) := cell_of_row _ B 1 _ _ _ k1
      have q2 : w6.cell? ⟨B, 2, none⟩ = some (.int .i64 0) := cell_of_row _ B 2 _ _ _ k1
      have q3 : w6.cell? ⟨B, 3, none⟩ = some (.slice none 0 0) := cell_of_row _ B 3 _ _ _ k1
      have q4 : w6.cell? ⟨B, 4, none⟩ = some (.slice none 0 0) := cell_of_row _ B 4 _ _ _ k1
      have q5 : w6.cell? ⟨B, 5, none⟩ = some (.slice none 0 0) := cell_of_row _ B 5 _ _ _ k1
      have q6 : w6.cell? ⟨B, 6, none⟩ = some (.slice none 0 0) := cell_of_row _ B 6 _ _ _ k1
      have q7 : w6.cell? ⟨B, 7, none⟩ = some (.int .i64 0) := cell_of_row _ B 7 _ _ _ k1
      have q8 : w6.cell? ⟨B, 8, none⟩ = some (.int .i64 0) := cell_of_row _ B 8 _ _ _ k1
      have q9 : w6.cell? ⟨B, 9, none⟩ = some (.bool false) := cell_of_row _ B 9 _ _ _ k1
      refine bodyPost_ret (v := .tuple #[.agg #[.int .i64 0, .int .i64 0, .int .i64 0, .slice none 0 0, .slice none 0 0, .slice none 0 0, .slice none 0 0, .int .i64 0, .int .i64 0, .bool false], .int .i64 1]) (by simp [results, Try.results17, go_sem, q0, q1, q2, q3, q4, q5, q6, q7, q8, q9]) rfl ?_
      exact ⟨zeroP, rfl, zero_is, zero_at _, k2⟩
    have hkk := inB_iff.1 hk
    obtain ⟨k, rfl⟩ : ∃ k : Nat, kind = k := ⟨kind.toNat, by omega⟩
    have hkm : k < m := by omega
    have hkm' : (k : Int) < (m : Int) := by omega
    have hkm2 : ¬ (m : Int) ≤ (k : Int) := by omega
    obtain ⟨b, off, e, _⟩ := kat HKD.out hkm
    subst e
    have HR := hid (show d = newD k tile (K k).mn ∧ r = 0 from by have h := nw_0 (tile := tile) HKF.out hk ht; exact ⟨HR0.out.2.symm.trans h.2, HR0.out.1.symm.trans h.1⟩)
    rw [HR.out.1, HR.out.2]
    have HW := hid (fun W => within_any 0 tile 1000000 true ht W)
    obtain ⟨n, hn⟩ : ∃ n, (K k).mn = n := ⟨_, rfl⟩
    have hn1 : n ≤ 1000 := by rw [← hn]; exact HSM.out.mn k hkm
    have HNN := hid hn
    have hmk := run_mkI n (by omega)
    have HKM := hid hkm
    rw [hn]
    clear hk ht hkk hn hkm HR HR0
    go_enter Try.func17, Try.ntmps17
    go_upto_region 1 with fail
    generalize World.alloc w _ = w1 at H0 HKD ⊢
    go_upto_region 2 with (go_at_call 33; refine (HVK.out _ HKD.out).mono ?_; rintro e w2 ⟨rfl, hb⟩; have H1 := hid (H0.out.stays hb); have HK1 := hid (HKD.out.stays hb); clear hb)
    have r0 : World.cell? _ ⟨B, 0, none⟩ = some (.int .i64 0) := cell_of_row _ (B) 0 _ _ _ H1.out.br
    have r1 : World.cell? _ ⟨B, 1, none⟩ = some (.int .i64 0) := cell_of_row _ (B) 1 _ _ _ H1.out.br
    have r2 : World.cell? _ ⟨B, 2, none⟩ = some (.int .i64 0) := cell_of_row _ (B) 2 _ _ _ H1.out.br
    have r3 : World.cell? _ ⟨B, 3, none⟩ = some (.slice none 0 0) := cell_of_row _ (B) 3 _ _ _ H1.out.br
    have r4 : World.cell? _ ⟨B, 4, none⟩ = some (.slice none 0 0) := cell_of_row _ (B) 4 _ _ _ H1.out.br
    have r5 : World.cell? _ ⟨B, 5, none⟩ = some (.slice none 0 0) := cell_of_row _ (B) 5 _ _ _ H1.out.br
    have r6 : World.cell? _ ⟨B, 6, none⟩ = some (.slice none 0 0) := cell_of_row _ (B) 6 _ _ _ H1.out.br
    have r7 : World.cell? _ ⟨B, 7, none⟩ = some (.int .i64 0) := cell_of_row _ (B) 7 _ _ _ H1.out.br
    have r8 : World.cell? _ ⟨B, 8, none⟩ = some (.int .i64 0) := cell_of_row _ (B) 8 _ _ _ H1.out.br
    have r9 : World.cell? _ ⟨B, 9, none⟩ = some (.bool false) := cell_of_row _ (B) 9 _ _ _ H1.out.br
    have fz : ∀ j, World.frozen? _ ⟨B, j, none⟩ = false := fun j => frozen_of_row _ (B) j _ _ H1.out.br
    have hle := H1.out.le
    obtain ⟨b', off', e', _, z0, z1, z2⟩ := kat HK1.out HKM.out
    cases e'
    rw [HNN.out] at z2
    go_upto_region 9 with (first
    | (go_at_call 34; with_reducible refine (HW.out _).mono ?_; rintro e w3 ⟨rfl, rfl⟩)
    | (go_at_call 34; with_reducible refine (HWK.out _).mono ?_; rintro e w3 ⟨rfl, rfl⟩))
    clear z0 z1 z2 H0 HK1 HKD
    have hb4 : Below B w ((((w2.alloc (.cells (madeCells #[.int .i64 0] n) 3)).alloc (.cells (madeCells #[.int .i64 0] n) 3)).alloc (.cells (madeCells #[.int .i64 0] n) 3)).alloc (.cells (madeCells #[.int .i64 0] n) 3)) := (((H1.out.below.alloc (by omega) _).alloc (by rw [World.size_alloc]; omega) _).alloc (by rw [World.size_alloc, World.size_alloc]; omega) _).alloc (by rw [World.size_alloc, World.size_alloc, World.size_alloc]; omega) _
    have hB4 : ((((w2.alloc (.cells (madeCells #[.int .i64 0] n) 3)).alloc (.cells (madeCells #[.int .i64 0] n) 3)).alloc (.cells (madeCells #[.int .i64 0] n) 3)).alloc (.cells (madeCells #[.int .i64 0] n) 3)).heap[B]? = some (.cells #[.int .i64 0, .int .i64 0, .int .i64 0, .slice none 0 0, .slice none 0 0, .slice none 0 0, .slice none 0 0, .int .i64 0, .int .i64 0, .bool false] 25 (0, 0)) := ((((Below.heap_alloc _ _ _ (by simp; omega)).trans (Below.heap_alloc _ _ _ (by simp; omega))).trans (Below.heap_alloc _ _ _ (by simp; omega))).trans (Below.heap_alloc _ _ _ (by omega))).trans H1.out.br
    have f0 := four_alloc w2 (.cells (madeCells #[.int .i64 0] n) 3) 0 (by omega)
    have f1 := four_alloc w2 (.cells (madeCells #[.int .i64 0] n) 3) 1 (by omega)
    have f2 := four_alloc w2 (.cells (madeCells #[.int .i64 0] n) 3) 2 (by omega)
    have f3 := four_alloc w2 (.cells (madeCells #[.int .i64 0] n) 3) 3 (by omega)
    have HB4 := hid hb4
    have HBB4 := hid hB4
    have HF0 := hid f0; have HF1 := hid f1; have HF2 := hid f2; have HF3 := hid f3
    clear r0 r1 r2 r3 r4 r5 r6 r7 r8 r9 fz hle
    have r0 : World.cell? _ ⟨B, 0, none⟩ = some (.int .i64 0) := cell_of_row _ (B) 0 _ _ _ hB4
    have r1 : World.cell? _ ⟨B, 1, none⟩ = some (.int .i64 0) := cell_of_row _ (B) 1 _ _ _ hB4
    have r2 : World.cell? _ ⟨B, 2, none⟩ = some (.int .i64 0) := cell_of_row _ (B) 2 _ _ _ hB4
    have r3 : World.cell? _ ⟨B, 3, none⟩ = some (.slice none 0 0) := cell_of_row _ (B) 3 _ _ _ hB4
    have r4 : World.cell? _ ⟨B, 4, none⟩ = some (.slice none 0 0) := cell_of_row _ (B) 4 _ _ _ hB4
    have r5 : World.cell? _ ⟨B, 5, none⟩ = some (.slice none 0 0) := cell_of_row _ (B) 5 _ _ _ hB4
    have r6 : World.cell? _ ⟨B, 6, none⟩ = some (.slice none 0 0) := cell_of_row _ (B) 6 _ _ _ hB4
    have r7 : World.cell? _ ⟨B, 7, none⟩ = some (.int .i64 0) := cell_of_row _ (B) 7 _ _ _ hB4
    have r8 : World.cell? _ ⟨B, 8, none⟩ = some (.int .i64 0) := cell_of_row _ (B) 8 _ _ _ hB4
    have r9 : World.cell? _ ⟨B, 9, none⟩ = some (.bool false) := cell_of_row _ (B) 9 _ _ _ hB4
    have fz : ∀ j, World.frozen? _ ⟨B, j, none⟩ = false := fun j => frozen_of_row _ (B) j _ _ hB4
    clear hb4 hB4 f0 f1 f2 f3
    go_cut [7] (fun s7 wx => s7 = .int .i64 0 ∧ Hid (NF (k : Int) tile n B w wx))
    case first =>
      go_region
      all_goals go_wp2_with fail
      all_goals go_meet
      all_goals (refine ⟨rfl, hid (nf_fin HB4.out HBB4.out ?_ ?_ ?_ ?_)⟩ <;> first | exact HF0.out | exact HF1.out | exact HF2.out | exact HF3.out)
    case rest =>
      obtain ⟨rfl, HN⟩ := hcut
      clear HB4 HBB4 HF0 HF1 HF2 HF3 r0 r1 r2 r3 r4 r5 r6 r7 r8 r9 fz H1 hmk
      obtain ⟨a1, a2, a3, a4, hbe, hbx, h1, h2, h3, h4⟩ := HN.out
      go_wp2_with fail
      have q0 : wc.cell? ⟨B, 0, none⟩ = some (.int .i64 (k : Int)) := cell_of_row _ B 0 _ _ _ hbx
      have q1 : wc.cell? ⟨B, 1, none⟩ = some (.int .i64 tile) := cell_of_row _ B 1 _ _ _ hbx
      have q2 : wc.cell? ⟨B, 2, none⟩ = some (.int .i64 16) := cell_of_row _ B 2 _ _ _ hbx
      have q3 : wc.cell? ⟨B, 3, none⟩ = some (.slice (some ⟨a1, 0, none⟩) n n) := cell_of_row _ B 3 _ _ _ hbx
      have q4 : wc.cell? ⟨B, 4, none⟩ = some (.slice (some ⟨a2, 0, none⟩) n n) := cell_of_row _ B 4 _ _ _ hbx
      have q5 : wc.cell? ⟨B, 5, none⟩ = some (.slice (some ⟨a3, 0, none⟩) n n) := cell_of_row _ B 5 _ _ _ hbx
      have q6 : wc.cell? ⟨B, 6, none⟩ = some (.slice (some ⟨a4, 0, none⟩) n n) := cell_of_row _ B 6 _ _ _ hbx
      have q7 : wc.cell? ⟨B, 7, none⟩ = some (.int .i64 0) := cell_of_row _ B 7 _ _ _ hbx
      have q8 : wc.cell? ⟨B, 8, none⟩ = some (.int .i64 0) := cell_of_row _ B 8 _ _ _ hbx
      have q9 : wc.cell? ⟨B, 9, none⟩ = some (.bool true) := cell_of_row _ B 9 _ _ _ hbx
      refine bodyPost_ret (v := .tuple #[.agg #[.int .i64 (k : Int), .int .i64 tile, .int .i64 16, .slice (some ⟨a1, 0, none⟩) n n, .slice (some ⟨a2, 0, none⟩) n n, .slice (some ⟨a3, 0, none⟩) n n, .slice (some ⟨a4, 0, none⟩) n n, .int .i64 0, .int .i64 0, .bool true], .int .i64 0]) (by simp [results, Try.results17, go_sem, q0, q1, q2, q3, q4, q5, q6, q7, q8, q9]) rfl ?_
      exact ⟨⟨(k : Int), tile, 16, ⟨some ⟨a1, 0, none⟩, n, n, fun _ => 0⟩, ⟨some ⟨a2, 0, none⟩, n, n, fun _ => 0⟩, ⟨some ⟨a3, 0, none⟩, n, n, fun _ => 0⟩, ⟨some ⟨a4, 0, none⟩, n, n, fun _ => 0⟩, 0, 0, true⟩, rfl, ⟨rfl, rfl, rfl, ⟨rfl, fun _ _ => rfl⟩, ⟨rfl, fun _ _ => rfl⟩, ⟨rfl, fun _ _ => rfl⟩, ⟨rfl, fun _ _ => rfl⟩, rfl, rfl, rfl⟩, ⟨h1, h2, h3, h4⟩, hbe⟩
  · have hf0 : (f != 0) = true := by simpa using h0
    have HR := hid (show d = zeroD ∧ r = f from by have h := nw_k (kind := kind) (tile := tile) HKF.out h0; exact ⟨HR0.out.2.symm.trans h.2, HR0.out.1.symm.trans h.1⟩)
    rw [HR.out.1, HR.out.2]
    go_enter Try.func17, Try.ntmps17
    go_upto_region 1 with fail
    generalize World.alloc w _ = w1 at H0 HKD ⊢
    go_upto_region 2 with (go_at_call 33; refine (HVK.out _ HKD.out).mono ?_; rintro e w2 ⟨rfl, hb⟩; have H1 := hid (H0.out.stays hb); have HK1 := hid (HKD.out.stays hb); clear hb)
    have r0 : World.cell? _ ⟨B, 0, none⟩ = some (.int .i64 0) := cell_of_row _ (B) 0 _ _ _ H1.out.br
    have r1 : World.cell? _ ⟨B, 1, none⟩ = some (.int .i64 0) := cell_of_row _ (B) 1 _ _ _ H1.out.br
    have r2 : World.cell? _ ⟨B, 2, none⟩ = some (.int .i64 0) := cell_of_row _ (B) 2 _ _ _ H1.out.br
    have r3 : World.cell? _ ⟨B, 3, none⟩ = some (.slice none 0 0) := cell_of_row _ (B) 3 _ _ _ H1.out.br
    have r4 : World.cell? _ ⟨B, 4, none⟩ = some (.slice none 0 0) := cell_of_row _ (B) 4 _ _ _ H1.out.br
    have r5 : World.cell? _ ⟨B, 5, none⟩ = some (.slice none 0 0) := cell_of_row _ (B) 5 _ _ _ H1.out.br
    have r6 : World.cell? _ ⟨B, 6, none⟩ = some (.slice none 0 0) := cell_of_row _ (B) 6 _ _ _ H1.out.br
    have r7 : World.cell? _ ⟨B, 7, none⟩ = some (.int .i64 0) := cell_of_row _ (B) 7 _ _ _ H1.out.br
    have r8 : World.cell? _ ⟨B, 8, none⟩ = some (.int .i64 0) := cell_of_row _ (B) 8 _ _ _ H1.out.br
    have r9 : World.cell? _ ⟨B, 9, none⟩ = some (.bool false) := cell_of_row _ (B) 9 _ _ _ H1.out.br
    have fz : ∀ j, World.frozen? _ ⟨B, j, none⟩ = false := fun j => frozen_of_row _ (B) j _ _ H1.out.br
    have hle := H1.out.le
    go_wp2_with fail
    skip
    have k1 := set10 H1.out.br (.int .i64 0) (.int .i64 0) (.int .i64 0) (.slice none 0 0) (.slice none 0 0) (.slice none 0 0) (.slice none 0 0) (.int .i64 0) (.int .i64 0) (.bool false)
    have k2 := set10_below (g := B) H1.out.below (Nat.le_refl _) (.int .i64 0) (.int .i64 0) (.int .i64 0) (.slice none 0 0) (.slice none 0 0) (.slice none 0 0) (.slice none 0 0) (.int .i64 0) (.int .i64 0) (.bool false)
    clear r0 r1 r2 r3 r4 r5 r6 r7 r8 r9 fz hle
    generalize World.setCell (World.setCell _ _ _) _ _ = w6 at k1 k2 ⊢
    have q0 : w6.cell? ⟨B, 0, none⟩ = some (.int .i64 0) := cell_of_row _ B 0 _ _ _ k1
    have q1 : w6.cell? ⟨B, 1, none⟩ = some (.int .i64 0) := cell_of_row _ B 1 _ _ _ k1
    have q2 : w6.cell? ⟨B, 2, none⟩ = some (.int .i64 0) := cell_of_row _ B 2 _ _ _ k1
    have q3 : w6.cell? ⟨B, 3, none⟩ = some (.slice none 0 0) := cell_of_row _ B 3 _ _ _ k1
    have q4 : w6.cell? ⟨B, 4, none⟩ = some (.slice none 0 0) := cell_of_row _ B 4 _ _ _ k1
    have q5 : w6.cell? ⟨B, 5, none⟩ = some (.slice none 0 0) := cell_of_row _ B 5 _ _ _ k1
    have q6 : w6.cell? ⟨B, 6, none⟩ = some (.slice none 0 0) := cell_of_row _ B 6 _ _ _ k1
    have q7 : w6.cell? ⟨B, 7, none⟩ = some (.int .i64 0) := cell_of_row _ B 7 _ _ _ k1
    have q8 : w6.cell? ⟨B, 8, none⟩ = some (.int .i64 0) := cell_of_row _ B 8 _ _ _ k1
    have q9 : w6.cell? ⟨B, 9, none⟩ = some (.bool false) := cell_of_row _ B 9 _ _ _ k1
    refine bodyPost_ret (v := .tuple #[.agg #[.int .i64 0, .int .i64 0, .int .i64 0, .slice none 0 0, .slice none 0 0, .slice none 0 0, .slice none 0 0, .int .i64 0, .int .i64 0, .bool false], .int .i64 f]) (by simp [results, Try.results17, go_sem, q0, q1, q2, q3, q4, q5, q6, q7, q8, q9]) rfl ?_
    exact ⟨zeroP, rfl, zero_is, zero_at _, k2⟩
end Go.Proofs.Ytnhkblkijiipeaa
