/-
  Insert and Delete in a row of the call's own; BinarySearch in it.
-/
import Derived.Test.YtkpnngpnjimogaaWShf2
import Derived.Lib.OwnBridge
namespace Go.Proofs.Ytkpnngpnjimogaa
open Go.RowKit

/-- A row with a number put in, with one taken out. -/
def insY (Y : Nat → Int) (i : Nat) (t : Int) : Nat → Int := fun j => if j < i then Y j else if j = i then t else Y (j - 1)
def delY (Y : Nat → Int) (i : Nat) : Nat → Int := fun j => if j < i then Y j else Y (j + 1)
/-- Numbers in a row at or behind a block. -/
def Aft (B : Nat) (n : Nat) (Z : Nat → Int) (xo : Option Addr) (w : World) : Prop := Ints w xo n Z ∧ ∀ b off s, xo = some ⟨b, off, s⟩ → B ≤ b
theorem ints_set_ne {w : World} {ao : Option Addr} {n : Nat} {Z : Nat → Int} (h : Ints w ao n Z) {p : Addr} (hp : ∀ b off s, ao = some ⟨b, off, s⟩ → b ≠ p.block) (u : Value) : Ints (w.setCell p u) ao n Z := fun j hj => by
  obtain ⟨b, off, e, hz, hc⟩ := h j hj
  exact ⟨b, off, e, by simpa [World.setCell] using hz, (World.cell?_of_block (w := w) (Below.heap_setCell _ _ _ _ (hp b off _ e))).trans hc⟩
/-- Cells of a row behind a shift and a store. -/
theorem shift_cells {g q i : Nat} {Y : Nat → Int} {t : Int} {x : World} (hi : i ≤ q) (h0 : ∀ j, j < i → x.cell? ⟨g, j, none⟩ = some (.int .i64 (Y j))) (hs : ∀ j, j < q + 1 → (x.cell? ⟨g, j, none⟩).isSome = true) (first : Bool) :
    ∀ j, j < q + 1 → (if first then (x.setCells g i [.int .i64 t]).setCells g (i + 1) ((vals q (iv Y)).drop i) else (x.setCells g (i + 1) ((vals q (iv Y)).drop i)).setCells g i [.int .i64 t]).cell? ⟨g, j, none⟩ = some (.int .i64 (insY Y i t j)) := by
  have hl : ((vals q (iv Y)).drop i).length = q - i := by rw [List.length_drop, vals_length]
  have hin : ∀ (y : World) (k : Nat), (∀ j, j < q + 1 → (y.cell? ⟨g, j, none⟩).isSome = true) → k < q - i → (y.setCells g (i + 1) ((vals q (iv Y)).drop i)).cell? ⟨g, i + 1 + k, none⟩ = some (.int .i64 (Y (i + k))) := fun y k hy hk => by
    rw [World.cell?_setCells_in g _ (i + 1) y (fun j hj => hy _ (by rw [hl] at hj; omega)) k (by rw [hl]; exact hk)]
    have : ((vals q (iv Y)).drop i)[k]? = some (iv Y (i + k)) := by rw [List.getElem?_drop, vals_get _ (by omega)]
    rw [List.getElem?_eq_getElem (by rw [hl]; exact hk)] at this
    exact this
  have hone : ∀ (y : World), (y.cell? ⟨g, i, none⟩).isSome = true → (y.setCells g i [.int .i64 t]).cell? ⟨g, i, none⟩ = some (.int .i64 t) := fun y hy => by
    obtain ⟨u, hu⟩ := Option.isSome_iff_exists.1 hy
    exact World.cell?_setCell_same _ _ _ hu
  have ho1 : ∀ (y : World) (j : Nat), j ≠ i → (y.setCells g i [.int .i64 t]).cell? ⟨g, j, none⟩ = y.cell? ⟨g, j, none⟩ := fun y j hj => World.cell?_setCells_out g _ i y _ (fun _ _ => by show j < i ∨ i + [_].length ≤ j; simp; omega)
  have ho2 : ∀ (y : World) (j : Nat), j < i + 1 → (y.setCells g (i + 1) ((vals q (iv Y)).drop i)).cell? ⟨g, j, none⟩ = y.cell? ⟨g, j, none⟩ := fun y j hj => World.cell?_setCells_out g _ (i + 1) y _ (fun _ _ => .inl hj)
  intro j hj
  unfold insY
  cases first
  · simp only [Bool.false_eq_true, if_false]
    by_cases h1 : j < i
    · rw [if_pos h1, ho1 _ _ (by omega), ho2 _ _ (by omega), h0 j h1]
    · rw [if_neg h1]
      by_cases h2 : j = i
      · subst h2
        rw [if_pos rfl, hone _ (by rw [ho2 _ _ (by omega)]; exact hs j hj)]
      · rw [if_neg h2, ho1 _ _ h2]
        have := hin x (j - (i + 1)) hs (by omega)
        rw [show i + 1 + (j - (i + 1)) = j by omega, show i + (j - (i + 1)) = j - 1 by omega] at this
        exact this
  · simp only [if_true]
    by_cases h1 : j < i
    · rw [if_pos h1, ho2 _ _ (by omega), ho1 _ _ (by omega), h0 j h1]
    · rw [if_neg h1]
      by_cases h2 : j = i
      · subst h2
        rw [if_pos rfl, ho2 _ _ (by omega), hone _ (hs j hj)]
      · rw [if_neg h2]
        have := hin (x.setCells g i [.int .i64 t]) (j - (i + 1)) (fun k hk => by
          by_cases e : k = i
          · subst e; rw [hone _ (hs k hk)]; rfl
          · rw [ho1 _ _ e]; exact hs k hk) (by omega)
        rw [show i + 1 + (j - (i + 1)) = j by omega, show i + (j - (i + 1)) = j - 1 by omega] at this
        exact this
theorem belowSet {B b : Nat} {a : World} (hb : B ≤ b) : ∀ (vs : List Value) (o : Nat) (w : World), Below B a w → Below B a (w.setCells b o vs)
  | [], _, _, h => h
  | v :: r, o, w, h => belowSet hb r (o + 1) _ (h.setCell (by exact hb) v)
theorem size_setCells (b : Nat) : ∀ (vs : List Value) (o : Nat) (w : World), (w.setCells b o vs).heap.size = w.heap.size
  | [], _, _ => rfl
  | v :: r, o, w => by rw [World.setCells, size_setCells b r (o + 1)]; simp [World.setCell]

set_option maxHeartbeats 1600000 in
theorem insert_own (B : Nat) (bo : Option Addr) (q bc V : Nat) (Y : Nat → Int) (hq : q ≤ 4000) (i : Nat) (hi : i ≤ q) (t : Int) (w : World) (hr : w.ownsRow B 3 1 (.slice bo q bc) q (vals q (iv Y))) (hB : B ≤ w.heap.size) (hV : w.heap[V]? = some (.cells #[.int .i64 t] 3 (0, 0))) (hne : (Value.slice bo q bc).ownBlock ≠ some V) :
    Calls Try.prog 63 #[.slice bo q bc, .int .i64 i, .slice (some ⟨V, 0, none⟩) 1 1] w fun e w' => ∃ xo xc, e = .returned (.slice xo (q + 1) xc) ∧ Aft B (q + 1) (insY Y i t) xo w' ∧ Below B w w' := by
  have hvl : ([.int .i64 t] : List Value).length = 1 := rfl
  have hvs : ∀ j v, ([.int .i64 t] : List Value)[j]? = some v → w.cell? ⟨V, 0 + j, none⟩ = some v := fun j v hj => by
    have h := cell_of_row w V j _ _ _ hV
    rw [Nat.zero_add, h]
    simpa using hj
  have h1v : ∀ v ∈ ([.int .i64 t] : List Value), v.oneCell' = true := fun v hv => by simp at hv; subst hv; rfl
  have hcl : (vals q (iv Y)).length = q := vals_length _ _
  have h1c : ∀ v ∈ vals q (iv Y), v.oneCell' = true := fun v hv => by obtain ⟨x, _, rfl⟩ := List.mem_map.1 hv; rfl
  have grow : ∀ (i' : Nat), q = i' → bc < q + 1 → q ≤ bc → (bo = none → q = 0) → (∀ g, bo = some g → ∃ b, g = ⟨b, 0, none⟩) → (∀ b, bo = some ⟨b, 0, none⟩ → ∀ j v, (vals q (iv Y))[j]? = some v → w.cell? ⟨b, j, none⟩ = some v) → Calls Try.prog 63 #[.slice bo q bc, .int .i64 i', .slice (some ⟨V, 0, none⟩) 1 1] w fun e w' => ∃ xo xc, e = .returned (.slice xo (q + 1) xc) ∧ Aft B (q + 1) (insY Y i' t) xo w' ∧ Below B w w' := by
    rintro i' rfl hc hc' hn hf hcs
    refine (Any2.slices_Insert_int_end_grow Try.laysNm221 bo q bc V 0 1 1 (vals q (iv Y)) [.int .i64 t] w (by omega) hc' hc (by omega) hcl hvl hn (fun a ha j v hj => ?_) hvs h1v).mono ?_
    · obtain ⟨b, rfl⟩ := hf a ha
      rw [Addr.add_lit, Nat.zero_add]; exact hcs b ha j v hj
    · rintro e w' ⟨rfl, rfl⟩
      refine ⟨_, _, rfl, ⟨fun j hj => ⟨w.heap.size, 0, rfl, by simp, ?_⟩, fun b off s e => by cases e; exact hB⟩, ((Below.refl B w).drew).alloc (by simpa using hB) _⟩
      have hz : (w.drew.alloc (.cells ((vals q (iv Y) ++ [Value.int .i64 t]).toArray ++ Builtin.zeroCells (Value.int .i64 0).cells (grownCap w (q + 1) bc 3 - (q + 1))) 3)).heap[w.heap.size]? = some (.cells ((vals q (iv Y) ++ [Value.int .i64 t]).toArray ++ Builtin.zeroCells (Value.int .i64 0).cells (grownCap w (q + 1) bc 3 - (q + 1))) 3 (0, 0)) := by
        show (w.heap.push _)[_]? = _
        rw [Array.getElem?_push, if_pos rfl]
      refine (cell_of_row _ _ (0 + j) _ _ _ hz).trans ?_
      rw [Nat.zero_add, Array.getElem?_append_left (by simp [vals_length]; omega), List.getElem?_toArray]
      unfold insY
      by_cases h : j < q
      · rw [if_pos h, List.getElem?_append_left (by rw [vals_length]; exact h), vals_get _ h]
      · obtain rfl : j = q := by omega
        rw [if_neg h, if_pos rfl, List.getElem?_append_right (by rw [vals_length]; exact Nat.le_refl _), vals_length]; simp
  rcases hr.2 with ⟨e, h0⟩ | ⟨g, cap, cur, e, hgB, hg, hqc, hcm, hcs, htk⟩
  · cases e
    obtain rfl : i = 0 := by omega
    exact grow 0 rfl (by omega) (Nat.le_refl _) (fun _ => rfl) (fun g h => by cases h) (fun b h => by cases h)
  · cases e
    have hcell : ∀ j v, (vals q (iv Y))[j]? = some v → w.cell? ⟨g, j, none⟩ = some v := fun j v hj => by
      have hjq : j < q := by have := (List.getElem?_eq_some_iff.1 hj).1; rwa [vals_length] at this
      rw [hr.cellAt j (by omega)]; exact hj
    have hcell' : ∀ j v, (vals q (iv Y))[j]? = some v → w.cell? ⟨g, 0 + j, none⟩ = some v := fun j v hj => by rw [Nat.zero_add]; exact hcell j v hj
    have hVg : V ≠ g := fun h => hne (by rw [h]; rfl)
    have hgl : g < w.heap.size := heap_lt hg
    have hsz : cur.size = bc := by omega
    have hsome : ∀ j, j < bc → (w.cell? ⟨g, j, none⟩).isSome = true := fun j hj => by
      rw [cell_of_row w g j _ _ _ hg, Array.getElem?_eq_getElem (by omega)]; rfl
    unfold maxLen at hcm
    by_cases hroom : q + 1 ≤ bc
    · by_cases hiq : i < q
      · refine (Any2.slices_Insert_int_shift Try.laysNm221 g 0 q bc i V 0 1 1 (vals q (iv Y)) [.int .i64 t] w hiq (by omega) hroom hcm hVg hcl hvl hcell' (fun j hj => by rw [Nat.zero_add]; exact hsome j (by omega)) (fun j _ => by rw [Nat.zero_add]; exact hr.frozenAt j) hvs h1c h1v 3 3 1 bc (by unfold World.shape?; rw [hV]; rfl) (by unfold World.shape?; rw [hg]; simp [hsz]) (by omega) (frozen_of_row w V 0 _ _ hV) (frozen_of_row w V 1 _ _ hV)).mono ?_
        rintro e w' ⟨rfl, rfl⟩
        have hsc := shift_cells (g := g) (q := q) (i := i) (Y := Y) (t := t) (x := w.drew) hi (fun j hj => hcell j _ (vals_get _ (by omega))) (fun j hj => hsome j (by omega)) false
        simp only [Bool.false_eq_true, if_false] at hsc
        refine ⟨_, _, rfl, ⟨fun j hj => ⟨g, 0, rfl, by rw [size_setCells, size_setCells]; exact hgl, ?_⟩, fun b off s e => by cases e; exact hgB⟩, belowSet hgB _ _ _ (belowSet hgB _ _ _ (Below.refl B w).drew)⟩
        rw [Nat.zero_add, Nat.zero_add, Nat.zero_add]
        exact hsc j hj
      · obtain rfl : i = q := by omega
        refine (Any2.slices_Insert_int_end_room Try.laysNm221 g 0 i bc V 0 1 1 [.int .i64 t] w (by omega) hroom hcm hvl (fun j hj => by rw [Nat.zero_add]; exact hsome _ (by omega)) (fun j _ => by rw [Nat.zero_add]; exact hr.frozenAt _) hvs h1v).mono ?_
        rintro e w' ⟨rfl, rfl⟩
        have hsc := shift_cells (g := g) (q := i) (i := i) (Y := Y) (t := t) (x := w) hi (fun j hj => hcell j _ (vals_get _ (by omega))) (fun j hj => hsome j (by omega)) false
        rw [List.drop_eq_nil_of_le (by rw [vals_length]; exact Nat.le_refl _)] at hsc
        simp only [Bool.false_eq_true, if_false, World.setCells] at hsc
        refine ⟨_, _, rfl, ⟨fun j hj => ⟨g, 0, rfl, by rw [size_setCells]; exact hgl, ?_⟩, fun b off s e => by cases e; exact hgB⟩, belowSet hgB _ _ _ (Below.refl B w)⟩
        rw [Nat.zero_add, Nat.zero_add]
        exact hsc j hj
    · by_cases hiq : i < q
      · refine (Any2.slices_Insert_int_grow Try.laysNm221 g 0 q bc i V 0 1 1 (vals q (iv Y)) [.int .i64 t] w hiq (by omega) hqc (by omega) (by omega) hcl hvl hcell' hvs h1c h1v).mono ?_
        rintro e w' ⟨rfl, rfl⟩
        obtain ⟨arr, harr⟩ : ∃ a, a = ((vals q (iv Y)).take i).toArray ++ Builtin.zeroCells (Value.int .i64 0).cells (q + 1 - i) ++ Builtin.zeroCells (Value.int .i64 0).cells (grownCap w (q + 1) bc 3 - (q + 1)) := ⟨_, rfl⟩
        have hz1 : (Value.int .i64 0).cells.size = 1 := rfl
        have hal : q + 1 ≤ arr.size := by rw [harr]; simp only [Array.size_append, size_zeroCells, hz1, List.size_toArray, List.length_take, vals_length]; omega
        have ha0 : ∀ j, j < i → arr[j]? = some (.int .i64 (Y j)) := fun j hj => by
          rw [harr, Array.getElem?_append_left (by simp only [Array.size_append, size_zeroCells, hz1, List.size_toArray, List.length_take, vals_length]; omega), Array.getElem?_append_left (by simp only [List.size_toArray, List.length_take, vals_length]; omega), List.getElem?_toArray, List.getElem?_take, if_pos hj, vals_get _ (by omega)]
        have hb : (w.alloc (.cells arr 3)).heap[w.heap.size]? = some (.cells arr 3 (0, 0)) := by
          show (w.heap.push _)[_]? = _
          rw [Array.getElem?_push, if_pos rfl]
        have hsc := shift_cells (g := w.heap.size) (q := q) (i := i) (Y := Y) (t := t) (x := w.alloc (.cells arr 3)) hi (fun j hj => (cell_of_row _ _ j _ _ _ hb).trans (ha0 j hj)) (fun j hj => by rw [cell_of_row _ _ j _ _ _ hb, Array.getElem?_eq_getElem (by omega)]; rfl) true
        simp only [if_true] at hsc
        have hdr : ∀ (vs : List Value) (o : Nat) (x : World), (x.drew.setCells w.heap.size o vs) = (x.setCells w.heap.size o vs).drew := fun vs => by
          induction vs with
          | nil => intro o x; rfl
          | cons v r ih => intro o x; show (x.drew.setCell _ _).setCells _ _ r = _; exact ih (o + 1) (x.setCell ⟨w.heap.size, o, none⟩ v)
        show ∃ xo xc, _ ∧ Aft B (q + 1) (insY Y i t) xo ((((w.alloc (.cells (((vals q (iv Y)).take i).toArray ++ Builtin.zeroCells (Value.int .i64 0).cells (q + 1 - i) ++ Builtin.zeroCells (Value.int .i64 0).cells (grownCap w (q + 1) bc 3 - (q + 1))) 3)).drew.setCells w.heap.size i [.int .i64 t]).drew).setCells w.heap.size (i + 1) ((vals q (iv Y)).drop i)) ∧ Below B w ((((w.alloc (.cells (((vals q (iv Y)).take i).toArray ++ Builtin.zeroCells (Value.int .i64 0).cells (q + 1 - i) ++ Builtin.zeroCells (Value.int .i64 0).cells (grownCap w (q + 1) bc 3 - (q + 1))) 3)).drew.setCells w.heap.size i [.int .i64 t]).drew).setCells w.heap.size (i + 1) ((vals q (iv Y)).drop i))
        rw [← harr]
        refine ⟨_, _, rfl, ⟨fun j hj => ⟨w.heap.size, 0, rfl, by rw [size_setCells]; show _ < (World.setCells _ _ _ _).heap.size; rw [size_setCells]; show _ < (w.heap.push _).size; simp, ?_⟩, fun b off s e => by cases e; exact hB⟩, belowSet hB _ _ _ (belowSet hB _ _ _ (((Below.refl B w).alloc hB _).drew)).drew⟩
        rw [Nat.zero_add, hdr, hdr, hdr]
        show World.cell? (World.setCells (World.setCells (w.alloc (.cells arr 3)) w.heap.size i [.int .i64 t]) w.heap.size (i + 1) ((vals q (iv Y)).drop i)) _ = _
        exact hsc j hj
      · obtain rfl : i = q := by omega
        exact grow i rfl (by omega) hqc (fun h => by cases h) (fun g' h => by cases h; exact ⟨_, rfl⟩) (fun b h => by cases h; exact hcell)
theorem delete_own (B g q bc : Nat) (Y : Nat → Int) (i : Nat) (hi : i < q) (w : World) (hr : w.ownsRow B 3 1 (.slice (some ⟨g, 0, none⟩) q bc) q (vals q (iv Y))) :
    Calls Try.prog 62 #[.slice (some ⟨g, 0, none⟩) q bc, .int .i64 i, .int .i64 ((i + 1 : Nat) : Int)] w fun e w' => ∃ xo xc, e = .returned (.slice xo (q - 1) xc) ∧ Aft B (q - 1) (delY Y i) xo w' ∧ Below B w w' := by
  have hv : vals q (iv Y) = ((List.range q).map Y).map (Value.int .i64) := by rw [List.map_map]; rfl
  have hr' := hr
  rw [hv] at hr'
  obtain ⟨g', c', e, hBg, hgl, h1, h2, h3, hH⟩ := Lib.holds_of_ownsRow (enc := Value.int .i64) hr' (by simp)
  cases e
  have hll : ((List.range q).map Y).length = q := by simp
  have hqc : q ≤ bc ∧ bc ≤ 9223372036854775807 := by
    rcases hr.2 with ⟨e, h0⟩ | ⟨g', cap, cur, e, hgB, hg, hqc, hcm, hcs, htk⟩
    · cases e
    · cases e; unfold maxLen at hcm; exact ⟨hqc, hcm⟩
  have h := Try.slices_Delete_int g 0 bc i (i + 1) ((List.range q).map Y) w hH (by rw [hll]; exact hqc.1) hqc.2 (by omega) (by rw [hll]; omega)
  rw [hll] at h
  refine h.mono ?_
  rintro e w' ⟨rfl, m, rfl⟩
  have hy : (((List.range q).map Y).take i ++ ((List.range q).map Y).drop (i + 1) ++ List.replicate (i + 1 - i) 0).length = q := by simp; omega
  have hrow := Lib.ownsRow_putRow (enc := Value.int .i64) (q := m) (k := q - 1) hr' hy (by omega)
  refine ⟨_, _, by rw [show q - (i + 1 - i) = q - 1 by omega], ⟨fun j hj => ⟨g, 0, rfl, (hrow.lt g rfl).2, ?_⟩, fun b off s e => by cases e; exact hBg⟩, Lib.below_putRow (Below.refl B w) hBg⟩
  rw [Nat.zero_add, hrow.cellAt j (by omega), List.getElem?_map, List.getElem?_take, if_pos hj]
  unfold delY
  by_cases h : j < i
  · rw [if_pos h, List.getElem?_append_left (by simp; omega), List.getElem?_append_left (by simp; omega), List.getElem?_take, if_pos h]
    simp [show j < q by omega]
  · rw [if_neg h, List.getElem?_append_left (by simp; omega), List.getElem?_append_right (by simp; omega), List.getElem?_drop]
    have e : i + 1 + (j - (((List.range q).map Y).take i).length) = j + 1 := by simp; omega
    rw [e]
    simp [show j + 1 < q by omega]
end Go.Proofs.Ytkpnngpnjimogaa
