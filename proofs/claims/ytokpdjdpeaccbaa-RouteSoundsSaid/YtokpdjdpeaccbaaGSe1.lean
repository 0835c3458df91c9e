/-
  A search begins: its boxes and rows are made, in whatever order.
-/
import Derived.Test.YtokpdjdpeaccbaaGRange
import Derived.Deep.OwnRows
namespace Go.Proofs.Ytokpdjdpeaccbaa
open Go.RowKit

abbrev z4 : Array Value := #[.int .i64 0, .int .i64 0, .int .i64 0, .int .i64 0]
theorem run_mkW (n : Nat) (hn : n ≤ 1000000) (w : World) : (Instr.makeSlice 61 (.int .i64 (n : Int)) (.int .i64 (n : Int))).run Try.prog w = .ok (.slice (some ⟨w.heap.size, 0, none⟩) n n) (w.alloc (.cells (madeCells z4 (n * 4)) 68)) := by
  obtain ⟨i0, hi0, hi1, hi2, hi3⟩ := info_parts infoW
  have := run_make (P := Try.prog) (w := w) 61 68 i0 _ Try.underlying61 hi0 hi1 .i64 .i64 (n : Int) (n : Int) (by omega) (Int.le_refl _) (by rw [hi3]; omega) (by omega)
  rw [this, hi2]
  rfl
theorem infoB : (Try.prog.info? 4).map (fun i => (i.zero, i.size, i.bytes)) = some (some (.bool false), 1, 1) := by kernel_rfl
theorem run_mkB (n : Nat) (hn : n ≤ 1000000) (w : World) : (Instr.makeSlice 39 (.int .i64 (n : Int)) (.int .i64 (n : Int))).run Try.prog w = .ok (.slice (some ⟨w.heap.size, 0, none⟩) n n) (w.alloc (.cells (madeCells #[.bool false] n) 4)) :=
  run_make_row' 39 4 (.bool false) 1 Try.underlying39 infoB rfl .i64 .i64 n (by omega) (by omega) w
theorem made_W (n : Nat) : (madeCells z4 (n * 4)).toList = encW n (fun _ => nilW) := by
  refine encW_ext (by simp [size_madeCells]) fun i t hi ht => ?_
  have ht4 : t = 0 ∨ t = 1 ∨ t = 2 ∨ t = 3 := by omega
  have hm : (i * 4 + t) % 4 = t := by omega
  simp only [madeCells, Array.toList_map, List.getElem?_map, Array.toList_range]
  rw [List.getElem?_range (by omega)]
  show some (z4[(i * 4 + t) % 4]!) = _
  rw [hm]
  rcases ht4 with rfl | rfl | rfl | rfl <;> rfl
theorem made_B (n : Nat) : (madeCells #[.bool false] n).toList = vals n (fun _ => .bool false) := by
  rw [toList_madeCells_one]
  apply List.ext_getElem?
  intro i
  by_cases hi : i < n
  · rw [vals_get _ hi, List.getElem?_replicate, if_pos hi]
  · rw [List.getElem?_eq_none (by simp; omega), List.getElem?_eq_none (by rw [vals_length]; omega)]
/-- A slice in a box: nil, or the row at y. -/
def slv (n : Nat) : Option Nat → Value | none => .slice none 0 0 | some y => .slice (some ⟨y, 0, none⟩) n n
/-- What has been made so far. -/
structure L0 (n o S0 : Nat) (W : World) (xB xK xD : Option Nat) (pB pK : Option (Nat × Option Nat)) (wr : World) : Prop where
  s0 : wr.heap[S0]? = some (.cells #[.int .i64 (n : Int)] 3 (0, 0))
  ho : wr.heap[o]? = some (.cells #[.slice none 0 0] 113 (0, 0))
  lo : o < wr.heap.size ∧ W.heap.size ≤ o
  hB : ∀ x, xB = some x → wr.heap[x]? = some (.cells (madeCells z4 (n * 4)) 68 (0, 0)) ∧ W.heap.size ≤ x
  hK : ∀ x, xK = some x → wr.heap[x]? = some (.cells (madeCells #[.bool false] n) 4 (0, 0)) ∧ W.heap.size ≤ x
  hD : ∀ x, xD = some x → wr.heap[x]? = some (.cells (madeCells #[.bool false] n) 4 (0, 0)) ∧ W.heap.size ≤ x
  hpB : ∀ p, pB = some p → wr.heap[p.1]? = some (.cells #[slv n p.2] 61 (0, 0)) ∧ W.heap.size ≤ p.1
  hpK : ∀ p, pK = some p → wr.heap[p.1]? = some (.cells #[slv n p.2] 39 (0, 0)) ∧ W.heap.size ≤ p.1
  ne : ∀ a b, xK = some a → xD = some b → a ≠ b
  below : Below W.heap.size W wr
section
variable {n o S0 : Nat} {W wr w' : World} {xB xK xD : Option Nat} {pB pK : Option (Nat × Option Nat)}
theorem L0.stays (h : L0 n o S0 W xB xK xD pB pK wr) (k : Below wr.heap.size wr w') : L0 n o S0 W xB xK xD pB pK w' where
  s0 := (k.block _ (heap_lt h.s0)).trans h.s0
  ho := (k.block _ (heap_lt h.ho)).trans h.ho
  lo := ⟨by have := k.size; have := h.lo.1; omega, h.lo.2⟩
  hB x e := ⟨(k.block _ (heap_lt (h.hB x e).1)).trans (h.hB x e).1, (h.hB x e).2⟩
  hK x e := ⟨(k.block _ (heap_lt (h.hK x e).1)).trans (h.hK x e).1, (h.hK x e).2⟩
  hD x e := ⟨(k.block _ (heap_lt (h.hD x e).1)).trans (h.hD x e).1, (h.hD x e).2⟩
  hpB x e := ⟨(k.block _ (heap_lt (h.hpB x e).1)).trans (h.hpB x e).1, (h.hpB x e).2⟩
  hpK x e := ⟨(k.block _ (heap_lt (h.hpK x e).1)).trans (h.hpK x e).1, (h.hpK x e).2⟩
  ne := h.ne
  below := h.below.trans (k.mono h.below.size)
theorem L0.al (h : L0 n o S0 W xB xK xD pB pK wr) (c : Obj) : L0 n o S0 W xB xK xD pB pK (wr.alloc c) := h.stays ((Below.refl _ _).alloc (Nat.le_refl _) _)
theorem L0.addB (h : L0 n o S0 W none xK xD pB pK wr) : L0 n o S0 W (some wr.heap.size) xK xD pB pK (wr.alloc (.cells (madeCells z4 (n * 4)) 68)) :=
  { h.al _ with hB := fun x e => by cases e; exact ⟨heap_new _ _, h.below.size⟩ }
theorem L0.addK (h : L0 n o S0 W xB none xD pB pK wr) : L0 n o S0 W xB (some wr.heap.size) xD pB pK (wr.alloc (.cells (madeCells #[.bool false] n) 4)) :=
  { h.al _ with hK := fun x e => by cases e; exact ⟨heap_new _ _, h.below.size⟩, ne := fun a b e e' => by cases e; have := heap_lt (h.hD b e').1; omega }
theorem L0.addD (h : L0 n o S0 W xB xK none pB pK wr) : L0 n o S0 W xB xK (some wr.heap.size) pB pK (wr.alloc (.cells (madeCells #[.bool false] n) 4)) :=
  { h.al _ with hD := fun x e => by cases e; exact ⟨heap_new _ _, h.below.size⟩, ne := fun a b e e' => by cases e'; have := heap_lt (h.hK a e).1; omega }
theorem L0.addPB (h : L0 n o S0 W xB xK xD none pK wr) : L0 n o S0 W xB xK xD (some (wr.heap.size, none)) pK (wr.alloc (.cells #[.slice none 0 0] 61)) :=
  { h.al _ with hpB := fun x e => by cases e; exact ⟨heap_new _ _, h.below.size⟩ }
theorem L0.addPK (h : L0 n o S0 W xB xK xD pB none wr) : L0 n o S0 W xB xK xD pB (some (wr.heap.size, none)) (wr.alloc (.cells #[.slice none 0 0] 39)) :=
  { h.al _ with hpK := fun x e => by cases e; exact ⟨heap_new _ _, h.below.size⟩ }
theorem oth {k p : Nat} {v : Value} (h : k ≠ p) : (wr.setCell ⟨p, 0, none⟩ v).heap[k]? = wr.heap[k]? := Below.heap_setCell _ _ _ k h
theorem L0.stB {p y : Nat} (h : L0 n o S0 W xB xK xD (some (p, none)) pK wr) : L0 n o S0 W xB xK xD (some (p, some y)) pK (wr.setCell ⟨p, 0, none⟩ (.slice (some ⟨y, 0, none⟩) n n)) := by
  obtain ⟨hp, hl⟩ := h.hpB _ rfl
  exact ⟨(oth (type_ne h.s0 hp (by decide))).trans h.s0, (oth (type_ne h.ho hp (by decide))).trans h.ho, by simpa [World.setCell] using h.lo,
    fun x e => ⟨(oth (type_ne (h.hB x e).1 hp (by decide))).trans (h.hB x e).1, (h.hB x e).2⟩, fun x e => ⟨(oth (type_ne (h.hK x e).1 hp (by decide))).trans (h.hK x e).1, (h.hK x e).2⟩,
    fun x e => ⟨(oth (type_ne (h.hD x e).1 hp (by decide))).trans (h.hD x e).1, (h.hD x e).2⟩, fun x e => by cases e; exact ⟨heap_setCell_same _ p 0 _ _ _ hp, hl⟩,
    fun x e => ⟨(oth (type_ne (h.hpK x e).1 hp (by decide))).trans (h.hpK x e).1, (h.hpK x e).2⟩, h.ne, h.below.setCell (p := ⟨p, 0, none⟩) hl _⟩
theorem L0.stK {p y : Nat} (h : L0 n o S0 W xB xK xD pB (some (p, none)) wr) : L0 n o S0 W xB xK xD pB (some (p, some y)) (wr.setCell ⟨p, 0, none⟩ (.slice (some ⟨y, 0, none⟩) n n)) := by
  obtain ⟨hp, hl⟩ := h.hpK _ rfl
  exact ⟨(oth (type_ne h.s0 hp (by decide))).trans h.s0, (oth (type_ne h.ho hp (by decide))).trans h.ho, by simpa [World.setCell] using h.lo,
    fun x e => ⟨(oth (type_ne (h.hB x e).1 hp (by decide))).trans (h.hB x e).1, (h.hB x e).2⟩, fun x e => ⟨(oth (type_ne (h.hK x e).1 hp (by decide))).trans (h.hK x e).1, (h.hK x e).2⟩,
    fun x e => ⟨(oth (type_ne (h.hD x e).1 hp (by decide))).trans (h.hD x e).1, (h.hD x e).2⟩, fun x e => ⟨(oth (type_ne (h.hpB x e).1 hp (by decide))).trans (h.hpB x e).1, (h.hpB x e).2⟩,
    fun x e => by cases e; exact ⟨heap_setCell_same _ p 0 _ _ _ hp, hl⟩, h.ne, h.below.setCell (p := ⟨p, 0, none⟩) hl _⟩
theorem L0.c0 (h : L0 n o S0 W xB xK xD pB pK wr) : wr.cell? ⟨S0, 0, none⟩ = some (.int .i64 (n : Int)) := cell_of_row _ _ 0 _ _ _ h.s0
/-- All is made. -/
theorem L0.sm {b k rb rk rd : Nat} (h : L0 n o S0 W (some rb) (some rk) (some rd) (some (b, some rb)) (some (k, some rk)) wr) (hn : n ≤ 1000000) :
    SM W.heap.size ⟨o, b, k, rb, rk, rd⟩ n (fun _ => nilW) (fun _ => false) (fun _ => false) (.slice none 0 0) 0 (fun _ => nilW) wr := by
  refine ⟨⟨h.ho, World.ownsRow_nil _ _ _ _⟩, (h.hpB _ rfl).1, (h.hpK _ rfl).1, ⟨encW_length _ _, .inr ⟨rb, n, _, rfl, (h.hB _ rfl).2, (h.hB _ rfl).1, Nat.le_refl _, by unfold maxLen; omega, by simp [size_madeCells], ?_⟩⟩,
    ⟨by simp [vals_length], .inr ⟨rk, n, _, rfl, (h.hK _ rfl).2, (h.hK _ rfl).1, Nat.le_refl _, by unfold maxLen; omega, by simp [size_madeCells], ?_⟩⟩, ⟨by simp [vals_length], .inr ⟨rd, n, _, rfl, (h.hD _ rfl).2, (h.hD _ rfl).1, Nat.le_refl _, by unfold maxLen; omega, by simp [size_madeCells], ?_⟩⟩, by simp [Value.ownBlock], h.ne _ _ rfl rfl⟩
  · rw [made_W]; exact List.take_of_length_le (by rw [encW_length]; exact Nat.le_refl _)
  · rw [made_B]; exact List.take_of_length_le (by rw [vals_length]; omega)
  · rw [made_B]; exact List.take_of_length_le (by rw [vals_length]; omega)
end
def seOps : Array Oper := #[
  { dst := some 13, op := Op.load 3 (Operand.tmp 1), type := 3, pos := "search.go:21", after := #[], guard := none },
  { dst := some 14, op := Op.makeSlice 61 (Operand.tmp 13) (Operand.tmp 13), type := 61, pos := "search.go:21", after := #[{ on := 0, ground := Ground.data }, { on := 0, ground := Ground.data }], guard := none },
  { dst := some 15, op := Op.load 3 (Operand.tmp 1), type := 3, pos := "search.go:21", after := #[], guard := none },
  { dst := some 16, op := Op.makeSlice 39 (Operand.tmp 15) (Operand.tmp 15), type := 39, pos := "search.go:21", after := #[{ on := 2, ground := Ground.data }, { on := 2, ground := Ground.data }], guard := none },
  { dst := some 17, op := Op.load 3 (Operand.tmp 1), type := 3, pos := "search.go:21", after := #[], guard := none },
  { dst := some 18, op := Op.makeSlice 39 (Operand.tmp 17) (Operand.tmp 17), type := 39, pos := "search.go:21", after := #[{ on := 4, ground := Ground.data }, { on := 4, ground := Ground.data }], guard := none },
  { dst := some 6, op := Op.alloc 61, type := 0, pos := "search.go:21", after := #[], guard := none },
  { dst := some 7, op := Op.alloc 39, type := 0, pos := "search.go:21", after := #[], guard := none },
  { dst := none, op := Op.store 61 (Operand.tmp 6) (Operand.tmp 14), type := 0, pos := "search.go:21", after := #[{ on := 6, ground := Ground.data }, { on := 1, ground := Ground.data }, { on := 0, ground := Ground.phase }, { on := 1, ground := Ground.phase }, { on := 2, ground := Ground.textOnly Departure.lateStores }, { on := 3, ground := Ground.textOnly Departure.lateStoresUnsure }, { on := 4, ground := Ground.textOnly Departure.lateStores }, { on := 5, ground := Ground.textOnly Departure.lateStoresUnsure }, { on := 6, ground := Ground.phase }, { on := 7, ground := Ground.phase }], guard := none },
  { dst := none, op := Op.store 39 (Operand.tmp 7) (Operand.tmp 16), type := 0, pos := "search.go:21", after := #[{ on := 7, ground := Ground.data }, { on := 3, ground := Ground.data }, { on := 8, ground := Ground.chain }, { on := 0, ground := Ground.phase }, { on := 1, ground := Ground.phase }, { on := 2, ground := Ground.phase }, { on := 3, ground := Ground.phase }, { on := 4, ground := Ground.textOnly Departure.lateStores }, { on := 5, ground := Ground.textOnly Departure.lateStoresUnsure }, { on := 6, ground := Ground.phase }, { on := 7, ground := Ground.phase }, { on := 8, ground := Ground.phase }], guard := none },
  { dst := some 8, op := Op.assign (Operand.tmp 18), type := 39, pos := "search.go:21", after := #[{ on := 5, ground := Ground.data }, { on := 9, ground := Ground.chain }, { on := 0, ground := Ground.phase }, { on := 1, ground := Ground.phase }, { on := 2, ground := Ground.phase }, { on := 3, ground := Ground.phase }, { on := 4, ground := Ground.phase }, { on := 5, ground := Ground.phase }, { on := 6, ground := Ground.phase }, { on := 7, ground := Ground.phase }, { on := 8, ground := Ground.phase }, { on := 9, ground := Ground.phase }], guard := none }]
set_option maxRecDepth 100000 in
set_option maxHeartbeats 12800000 in
theorem se_begin (n o S0 : Nat) (W w0 : World) (hn : n ≤ 1000000) (h0 : L0 n o S0 W none none none none none w0) (r0 r2 r3 : Value) (Q : Exit → Act → World → Prop)
    (hQ : ∀ (wr : World) (xB xK xD pB pK : Nat), L0 n o S0 W (some xB) (some xK) (some xD) (some (pB, some xB)) (some (pK, some xK)) wr → Q .normal { tmps := #[r0, .pointer (some ⟨S0, 0, none⟩), r2, r3, undef, .pointer (some ⟨o, 0, none⟩), .pointer (some ⟨pB, 0, none⟩), .pointer (some ⟨pK, 0, none⟩), .slice (some ⟨xD, 0, none⟩) n n, undef, undef, undef, undef, .int .i64 (n : Int), .slice (some ⟨xB, 0, none⟩) n n, .int .i64 (n : Int), .slice (some ⟨xK, 0, none⟩) n n, .int .i64 (n : Int), .slice (some ⟨xD, 0, none⟩) n n, undef, undef, undef, undef, undef, undef, undef, undef, undef, undef, undef, undef, undef, undef, undef, undef, undef, undef, undef, undef, undef, undef, undef, undef, undef, undef, undef, undef, undef, undef, undef, undef, undef, undef], defers := [] } wr) :
    (Code.region 1 seOps true).wp Try.prog Q { tmps := #[r0, .pointer (some ⟨S0, 0, none⟩), r2, r3, undef, .pointer (some ⟨o, 0, none⟩), undef, undef, undef, undef, undef, undef, undef, undef, undef, undef, undef, undef, undef, undef, undef, undef, undef, undef, undef, undef, undef, undef, undef, undef, undef, undef, undef, undef, undef, undef, undef, undef, undef, undef, undef, undef, undef, undef, undef, undef, undef, undef, undef, undef, undef, undef, undef], defers := [] } w0 := by
  have hmW := run_mkW n hn
  have hmB := run_mkB n hn
  refine wp_region_noPanic ?_
  replace hQ : ∀ (wr : World) (xB xK xD pB pK : Nat), L0 n o S0 W (some xB) (some xK) (some xD) (some (pB, some xB)) (some (pK, some xK)) wr → NoPanic Q .normal { tmps := #[r0, .pointer (some ⟨S0, 0, none⟩), r2, r3, undef, .pointer (some ⟨o, 0, none⟩), .pointer (some ⟨pB, 0, none⟩), .pointer (some ⟨pK, 0, none⟩), .slice (some ⟨xD, 0, none⟩) n n, undef, undef, undef, undef, .int .i64 (n : Int), .slice (some ⟨xB, 0, none⟩) n n, .int .i64 (n : Int), .slice (some ⟨xK, 0, none⟩) n n, .int .i64 (n : Int), .slice (some ⟨xD, 0, none⟩) n n, undef, undef, undef, undef, undef, undef, undef, undef, undef, undef, undef, undef, undef, undef, undef, undef, undef, undef, undef, undef, undef, undef, undef, undef, undef, undef, undef, undef, undef, undef, undef, undef, undef, undef], defers := [] } wr := fun wr xB xK xD pB pK h => NoPanic.normal (hQ wr xB xK xD pB pK h)
  generalize hQQ : NoPanic Q = Q at hQ ⊢
  have hPQ : ∀ (c : List PanicEntry) (a a' : Act) (w : World), Q (.panic c) a w → Q (.panic c) a' w := fun c a a' w h => by rw [← hQQ] at h ⊢; exact h
  clear hQQ
  have h1 := h0.stays ((Below.refl _ _).drew)
  have n_1_3_5_6_7_8_9_10 : ∀ (wr : World) (xB xK xD pB pK : Nat), L0 n o S0 W (some xB) (some xK) (some xD) (some (pB, some xB)) (some (pK, some xK)) wr → wpAnyH Try.prog .any seOps Q (fun w' => w'.cell? ⟨S0, 0, none⟩ = some (.int .i64 (n : Int))) 0 #[true, true, true, true, true, true, true, true, true, true, true] { tmps := #[r0, .pointer (some ⟨S0, 0, none⟩), r2, r3, undef, .pointer (some ⟨o, 0, none⟩), .pointer (some ⟨pB, 0, none⟩), .pointer (some ⟨pK, 0, none⟩), .slice (some ⟨xD, 0, none⟩) n n, undef, undef, undef, undef, .int .i64 (n : Int), .slice (some ⟨xB, 0, none⟩) n n, .int .i64 (n : Int), .slice (some ⟨xK, 0, none⟩) n n, .int .i64 (n : Int), .slice (some ⟨xD, 0, none⟩) n n, undef, undef, undef, undef, undef, undef, undef, undef, undef, undef, undef, undef, undef, undef, undef, undef, undef, undef, undef, undef, undef, undef, undef, undef, undef, undef, undef, undef, undef, undef, undef, undef, undef, undef], defers := [] } wr := by
    intro wr xB xK xD pB pK HF
    exact wpAnyH_done (by kernel_rfl) (hQ _ _ _ _ _ _ HF) _
  have n_1_3_5_6_7_8_9 : ∀ (wr : World) (xB xK xD pB pK : Nat), L0 n o S0 W (some xB) (some xK) (some xD) (some (pB, some xB)) (some (pK, some xK)) wr → wpAnyH Try.prog .any seOps Q (fun w' => w'.cell? ⟨S0, 0, none⟩ = some (.int .i64 (n : Int))) 1 #[true, true, true, true, true, true, true, true, true, true, false] { tmps := #[r0, .pointer (some ⟨S0, 0, none⟩), r2, r3, undef, .pointer (some ⟨o, 0, none⟩), .pointer (some ⟨pB, 0, none⟩), .pointer (some ⟨pK, 0, none⟩), undef, undef, undef, undef, undef, .int .i64 (n : Int), .slice (some ⟨xB, 0, none⟩) n n, .int .i64 (n : Int), .slice (some ⟨xK, 0, none⟩) n n, .int .i64 (n : Int), .slice (some ⟨xD, 0, none⟩) n n, undef, undef, undef, undef, undef, undef, undef, undef, undef, undef, undef, undef, undef, undef, undef, undef, undef, undef, undef, undef, undef, undef, undef, undef, undef, undef, undef, undef, undef, undef, undef, undef, undef, undef], defers := [] } wr := by
    intro wr xB xK xD pB pK HF
    refine wpAnyH_ready (rs := [10]) (by kernel_rfl) (by simp) ?_
    refine (AllReadyH.cons (o := { dst := some 8, op := Op.assign (Operand.tmp 18), type := 39, pos := "search.go:21", after := #[{ on := 5, ground := Ground.data }, { on := 9, ground := Ground.chain }, { on := 0, ground := Ground.phase }, { on := 1, ground := Ground.phase }, { on := 2, ground := Ground.phase }, { on := 3, ground := Ground.phase }, { on := 4, ground := Ground.phase }, { on := 5, ground := Ground.phase }, { on := 6, ground := Ground.phase }, { on := 7, ground := Ground.phase }, { on := 8, ground := Ground.phase }, { on := 9, ground := Ground.phase }], guard := none }) rfl (fun K hK => ?_) AllReadyH.nil)
    · skip
      go_simp
      refine hK.out _ _ (HF.c0) (fun _ => ?_)
      clear hK K
      exact n_1_3_5_6_7_8_9_10 _ (xB) (xK) (xD) (pB) (pK) (HF)
  have n_1_3_5_6_7_8 : ∀ (wr : World) (xB xK xD pB pK : Nat), L0 n o S0 W (some xB) (some xK) (some xD) (some (pB, some xB)) (some (pK, none)) wr → wpAnyH Try.prog .any seOps Q (fun w' => w'.cell? ⟨S0, 0, none⟩ = some (.int .i64 (n : Int))) 2 #[true, true, true, true, true, true, true, true, true, false, false] { tmps := #[r0, .pointer (some ⟨S0, 0, none⟩), r2, r3, undef, .pointer (some ⟨o, 0, none⟩), .pointer (some ⟨pB, 0, none⟩), .pointer (some ⟨pK, 0, none⟩), undef, undef, undef, undef, undef, .int .i64 (n : Int), .slice (some ⟨xB, 0, none⟩) n n, .int .i64 (n : Int), .slice (some ⟨xK, 0, none⟩) n n, .int .i64 (n : Int), .slice (some ⟨xD, 0, none⟩) n n, undef, undef, undef, undef, undef, undef, undef, undef, undef, undef, undef, undef, undef, undef, undef, undef, undef, undef, undef, undef, undef, undef, undef, undef, undef, undef, undef, undef, undef, undef, undef, undef, undef, undef], defers := [] } wr := by
    intro wr xB xK xD pB pK HF
    refine wpAnyH_ready (rs := [9]) (by kernel_rfl) (by simp) ?_
    refine (AllReadyH.cons (o := { dst := none, op := Op.store 39 (Operand.tmp 7) (Operand.tmp 16), type := 0, pos := "search.go:21", after := #[{ on := 7, ground := Ground.data }, { on := 3, ground := Ground.data }, { on := 8, ground := Ground.chain }, { on := 0, ground := Ground.phase }, { on := 1, ground := Ground.phase }, { on := 2, ground := Ground.phase }, { on := 3, ground := Ground.phase }, { on := 4, ground := Ground.textOnly Departure.lateStores }, { on := 5, ground := Ground.textOnly Departure.lateStoresUnsure }, { on := 6, ground := Ground.phase }, { on := 7, ground := Ground.phase }, { on := 8, ground := Ground.phase }], guard := none }) rfl (fun K hK => ?_) AllReadyH.nil)
    · skip
      have hp := (HF.hpK _ rfl).1
      have c0 := cell_of_row wr pK 0 _ _ _ hp
      have f0 := frozen_of_row wr pK 0 _ _ hp
      simp only [List.getElem?_toArray, List.getElem?_cons_zero] at c0
      have hs : L0 _ _ _ _ _ _ _ _ (some (pK, some xK)) _ := HF.stK
      clear hp
      go_simp
      refine hK.out _ _ (hs.c0) (fun _ => ?_)
      clear hK K
      exact n_1_3_5_6_7_8_9 _ (xB) (xK) (xD) (pB) (pK) (hs)
  have n_1_3_6_7_8_9 : ∀ (wr : World) (xB xK pB pK : Nat), L0 n o S0 W (some xB) (some xK) none (some (pB, some xB)) (some (pK, some xK)) wr → wpAnyH Try.prog .any seOps Q (fun w' => w'.cell? ⟨S0, 0, none⟩ = some (.int .i64 (n : Int))) 2 #[true, true, true, true, true, false, true, true, true, true, false] { tmps := #[r0, .pointer (some ⟨S0, 0, none⟩), r2, r3, undef, .pointer (some ⟨o, 0, none⟩), .pointer (some ⟨pB, 0, none⟩), .pointer (some ⟨pK, 0, none⟩), undef, undef, undef, undef, undef, .int .i64 (n : Int), .slice (some ⟨xB, 0, none⟩) n n, .int .i64 (n : Int), .slice (some ⟨xK, 0, none⟩) n n, .int .i64 (n : Int), undef, undef, undef, undef, undef, undef, undef, undef, undef, undef, undef, undef, undef, undef, undef, undef, undef, undef, undef, undef, undef, undef, undef, undef, undef, undef, undef, undef, undef, undef, undef, undef, undef, undef, undef], defers := [] } wr := by
    intro wr xB xK pB pK HF
    refine wpAnyH_ready (rs := [5]) (by kernel_rfl) (by simp) ?_
    refine (AllReadyH.cons (o := { dst := some 18, op := Op.makeSlice 39 (Operand.tmp 17) (Operand.tmp 17), type := 39, pos := "search.go:21", after := #[{ on := 4, ground := Ground.data }, { on := 4, ground := Ground.data }], guard := none }) rfl (fun K hK => ?_) AllReadyH.nil)
    · skip
      go_simp
      refine hK.out _ _ (HF.addD.c0) (fun _ => ?_)
      clear hK K
      exact n_1_3_5_6_7_8_9 _ (xB) (xK) (wr.heap.size) (pB) (pK) (HF.addD)
  have n_1_3_5_6_7 : ∀ (wr : World) (xB xK xD pB pK : Nat), L0 n o S0 W (some xB) (some xK) (some xD) (some (pB, none)) (some (pK, none)) wr → wpAnyH Try.prog .any seOps Q (fun w' => w'.cell? ⟨S0, 0, none⟩ = some (.int .i64 (n : Int))) 3 #[true, true, true, true, true, true, true, true, false, false, false] { tmps := #[r0, .pointer (some ⟨S0, 0, none⟩), r2, r3, undef, .pointer (some ⟨o, 0, none⟩), .pointer (some ⟨pB, 0, none⟩), .pointer (some ⟨pK, 0, none⟩), undef, undef, undef, undef, undef, .int .i64 (n : Int), .slice (some ⟨xB, 0, none⟩) n n, .int .i64 (n : Int), .slice (some ⟨xK, 0, none⟩) n n, .int .i64 (n : Int), .slice (some ⟨xD, 0, none⟩) n n, undef, undef, undef, undef, undef, undef, undef, undef, undef, undef, undef, undef, undef, undef, undef, undef, undef, undef, undef, undef, undef, undef, undef, undef, undef, undef, undef, undef, undef, undef, undef, undef, undef, undef], defers := [] } wr := by
    intro wr xB xK xD pB pK HF
    refine wpAnyH_ready (rs := [8]) (by kernel_rfl) (by simp) ?_
    refine (AllReadyH.cons (o := { dst := none, op := Op.store 61 (Operand.tmp 6) (Operand.tmp 14), type := 0, pos := "search.go:21", after := #[{ on := 6, ground := Ground.data }, { on := 1, ground := Ground.data }, { on := 0, ground := Ground.phase }, { on := 1, ground := Ground.phase }, { on := 2, ground := Ground.textOnly Departure.lateStores }, { on := 3, ground := Ground.textOnly Departure.lateStoresUnsure }, { on := 4, ground := Ground.textOnly Departure.lateStores }, { on := 5, ground := Ground.textOnly Departure.lateStoresUnsure }, { on := 6, ground := Ground.phase }, { on := 7, ground := Ground.phase }], guard := none }) rfl (fun K hK => ?_) AllReadyH.nil)
    · skip
      have hp := (HF.hpB _ rfl).1
      have c0 := cell_of_row wr pB 0 _ _ _ hp
      have f0 := frozen_of_row wr pB 0 _ _ hp
      simp only [List.getElem?_toArray, List.getElem?_cons_zero] at c0
      have hs : L0 _ _ _ _ _ _ _ (some (pB, some xB)) _ _ := HF.stB
      clear hp
      go_simp
      refine hK.out _ _ (hs.c0) (fun _ => ?_)
      clear hK K
      exact n_1_3_5_6_7_8 _ (xB) (xK) (xD) (pB) (pK) (hs)
  have n_1_5_6_7_8 : ∀ (wr : World) (xB xD pB pK : Nat), L0 n o S0 W (some xB) none (some xD) (some (pB, some xB)) (some (pK, none)) wr → wpAnyH Try.prog .any seOps Q (fun w' => w'.cell? ⟨S0, 0, none⟩ = some (.int .i64 (n : Int))) 3 #[true, true, true, false, true, true, true, true, true, false, false] { tmps := #[r0, .pointer (some ⟨S0, 0, none⟩), r2, r3, undef, .pointer (some ⟨o, 0, none⟩), .pointer (some ⟨pB, 0, none⟩), .pointer (some ⟨pK, 0, none⟩), undef, undef, undef, undef, undef, .int .i64 (n : Int), .slice (some ⟨xB, 0, none⟩) n n, .int .i64 (n : Int), undef, .int .i64 (n : Int), .slice (some ⟨xD, 0, none⟩) n n, undef, undef, undef, undef, undef, undef, undef, undef, undef, undef, undef, undef, undef, undef, undef, undef, undef, undef, undef, undef, undef, undef, undef, undef, undef, undef, undef, undef, undef, undef, undef, undef, undef, undef], defers := [] } wr := by
    intro wr xB xD pB pK HF
    refine wpAnyH_ready (rs := [3]) (by kernel_rfl) (by simp) ?_
    refine (AllReadyH.cons (o := { dst := some 16, op := Op.makeSlice 39 (Operand.tmp 15) (Operand.tmp 15), type := 39, pos := "search.go:21", after := #[{ on := 2, ground := Ground.data }, { on := 2, ground := Ground.data }], guard := none }) rfl (fun K hK => ?_) AllReadyH.nil)
    · skip
      go_simp
      refine hK.out _ _ (HF.addK.c0) (fun _ => ?_)
      clear hK K
      exact n_1_3_5_6_7_8 _ (xB) (wr.heap.size) (xD) (pB) (pK) (HF.addK)
  have n_1_3_6_7_8 : ∀ (wr : World) (xB xK pB pK : Nat), L0 n o S0 W (some xB) (some xK) none (some (pB, some xB)) (some (pK, none)) wr → wpAnyH Try.prog .any seOps Q (fun w' => w'.cell? ⟨S0, 0, none⟩ = some (.int .i64 (n : Int))) 3 #[true, true, true, true, true, false, true, true, true, false, false] { tmps := #[r0, .pointer (some ⟨S0, 0, none⟩), r2, r3, undef, .pointer (some ⟨o, 0, none⟩), .pointer (some ⟨pB, 0, none⟩), .pointer (some ⟨pK, 0, none⟩), undef, undef, undef, undef, undef, .int .i64 (n : Int), .slice (some ⟨xB, 0, none⟩) n n, .int .i64 (n : Int), .slice (some ⟨xK, 0, none⟩) n n, .int .i64 (n : Int), undef, undef, undef, undef, undef, undef, undef, undef, undef, undef, undef, undef, undef, undef, undef, undef, undef, undef, undef, undef, undef, undef, undef, undef, undef, undef, undef, undef, undef, undef, undef, undef, undef, undef, undef], defers := [] } wr := by
    intro wr xB xK pB pK HF
    refine wpAnyH_ready (rs := [5, 9]) (by kernel_rfl) (by simp) ?_
    refine (AllReadyH.cons (o := { dst := some 18, op := Op.makeSlice 39 (Operand.tmp 17) (Operand.tmp 17), type := 39, pos := "search.go:21", after := #[{ on := 4, ground := Ground.data }, { on := 4, ground := Ground.data }], guard := none }) rfl (fun K hK => ?_) (AllReadyH.cons (o := { dst := none, op := Op.store 39 (Operand.tmp 7) (Operand.tmp 16), type := 0, pos := "search.go:21", after := #[{ on := 7, ground := Ground.data }, { on := 3, ground := Ground.data }, { on := 8, ground := Ground.chain }, { on := 0, ground := Ground.phase }, { on := 1, ground := Ground.phase }, { on := 2, ground := Ground.phase }, { on := 3, ground := Ground.phase }, { on := 4, ground := Ground.textOnly Departure.lateStores }, { on := 5, ground := Ground.textOnly Departure.lateStoresUnsure }, { on := 6, ground := Ground.phase }, { on := 7, ground := Ground.phase }, { on := 8, ground := Ground.phase }], guard := none }) rfl (fun K hK => ?_) AllReadyH.nil))
    · skip
      go_simp
      refine hK.out _ _ (HF.addD.c0) (fun _ => ?_)
      clear hK K
      exact n_1_3_5_6_7_8 _ (xB) (xK) (wr.heap.size) (pB) (pK) (HF.addD)
    · skip
      have hp := (HF.hpK _ rfl).1
      have c0 := cell_of_row wr pK 0 _ _ _ hp
      have f0 := frozen_of_row wr pK 0 _ _ hp
      simp only [List.getElem?_toArray, List.getElem?_cons_zero] at c0
      have hs : L0 _ _ _ _ _ _ _ _ (some (pK, some xK)) _ := HF.stK
      clear hp
      go_simp
      refine hK.out _ _ (hs.c0) (fun _ => ?_)
      clear hK K
      exact n_1_3_6_7_8_9 _ (xB) (xK) (pB) (pK) (hs)
  have n_3_5_6_7 : ∀ (wr : World) (xK xD pB pK : Nat), L0 n o S0 W none (some xK) (some xD) (some (pB, none)) (some (pK, none)) wr → wpAnyH Try.prog .any seOps Q (fun w' => w'.cell? ⟨S0, 0, none⟩ = some (.int .i64 (n : Int))) 4 #[true, false, true, true, true, true, true, true, false, false, false] { tmps := #[r0, .pointer (some ⟨S0, 0, none⟩), r2, r3, undef, .pointer (some ⟨o, 0, none⟩), .pointer (some ⟨pB, 0, none⟩), .pointer (some ⟨pK, 0, none⟩), undef, undef, undef, undef, undef, .int .i64 (n : Int), undef, .int .i64 (n : Int), .slice (some ⟨xK, 0, none⟩) n n, .int .i64 (n : Int), .slice (some ⟨xD, 0, none⟩) n n, undef, undef, undef, undef, undef, undef, undef, undef, undef, undef, undef, undef, undef, undef, undef, undef, undef, undef, undef, undef, undef, undef, undef, undef, undef, undef, undef, undef, undef, undef, undef, undef, undef, undef], defers := [] } wr := by
    intro wr xK xD pB pK HF
    refine wpAnyH_ready (rs := [1]) (by kernel_rfl) (by simp) ?_
    refine (AllReadyH.cons (o := { dst := some 14, op := Op.makeSlice 61 (Operand.tmp 13) (Operand.tmp 13), type := 61, pos := "search.go:21", after := #[{ on := 0, ground := Ground.data }, { on := 0, ground := Ground.data }], guard := none }) rfl (fun K hK => ?_) AllReadyH.nil)
    · skip
      go_simp
      refine hK.out _ _ (HF.addB.c0) (fun _ => ?_)
      clear hK K
      exact n_1_3_5_6_7 _ (wr.heap.size) (xK) (xD) (pB) (pK) (HF.addB)
  have n_1_5_6_7 : ∀ (wr : World) (xB xD pB pK : Nat), L0 n o S0 W (some xB) none (some xD) (some (pB, none)) (some (pK, none)) wr → wpAnyH Try.prog .any seOps Q (fun w' => w'.cell? ⟨S0, 0, none⟩ = some (.int .i64 (n : Int))) 4 #[true, true, true, false, true, true, true, true, false, false, false] { tmps := #[r0, .pointer (some ⟨S0, 0, none⟩), r2, r3, undef, .pointer (some ⟨o, 0, none⟩), .pointer (some ⟨pB, 0, none⟩), .pointer (some ⟨pK, 0, none⟩), undef, undef, undef, undef, undef, .int .i64 (n : Int), .slice (some ⟨xB, 0, none⟩) n n, .int .i64 (n : Int), undef, .int .i64 (n : Int), .slice (some ⟨xD, 0, none⟩) n n, undef, undef, undef, undef, undef, undef, undef, undef, undef, undef, undef, undef, undef, undef, undef, undef, undef, undef, undef, undef, undef, undef, undef, undef, undef, undef, undef, undef, undef, undef, undef, undef, undef, undef], defers := [] } wr := by
    intro wr xB xD pB pK HF
    refine wpAnyH_ready (rs := [3, 8]) (by kernel_rfl) (by simp) ?_
    refine (AllReadyH.cons (o := { dst := some 16, op := Op.makeSlice 39 (Operand.tmp 15) (Operand.tmp 15), type := 39, pos := "search.go:21", after := #[{ on := 2, ground := Ground.data }, { on := 2, ground := Ground.data }], guard := none }) rfl (fun K hK => ?_) (AllReadyH.cons (o := { dst := none, op := Op.store 61 (Operand.tmp 6) (Operand.tmp 14), type := 0, pos := "search.go:21", after := #[{ on := 6, ground := Ground.data }, { on := 1, ground := Ground.data }, { on := 0, ground := Ground.phase }, { on := 1, ground := Ground.phase }, { on := 2, ground := Ground.textOnly Departure.lateStores }, { on := 3, ground := Ground.textOnly Departure.lateStoresUnsure }, { on := 4, ground := Ground.textOnly Departure.lateStores }, { on := 5, ground := Ground.textOnly Departure.lateStoresUnsure }, { on := 6, ground := Ground.phase }, { on := 7, ground := Ground.phase }], guard := none }) rfl (fun K hK => ?_) AllReadyH.nil))
    · skip
      go_simp
      refine hK.out _ _ (HF.addK.c0) (fun _ => ?_)
      clear hK K
      exact n_1_3_5_6_7 _ (xB) (wr.heap.size) (xD) (pB) (pK) (HF.addK)
    · skip
      have hp := (HF.hpB _ rfl).1
      have c0 := cell_of_row wr pB 0 _ _ _ hp
      have f0 := frozen_of_row wr pB 0 _ _ hp
      simp only [List.getElem?_toArray, List.getElem?_cons_zero] at c0
      have hs : L0 _ _ _ _ _ _ _ (some (pB, some xB)) _ _ := HF.stB
      clear hp
      go_simp
      refine hK.out _ _ (hs.c0) (fun _ => ?_)
      clear hK K
      exact n_1_5_6_7_8 _ (xB) (xD) (pB) (pK) (hs)
  have n_1_3_6_7 : ∀ (wr : World) (xB xK pB pK : Nat), L0 n o S0 W (some xB) (some xK) none (some (pB, none)) (some (pK, none)) wr → wpAnyH Try.prog .any seOps Q (fun w' => w'.cell? ⟨S0, 0, none⟩ = some (.int .i64 (n : Int))) 4 #[true, true, true, true, true, false, true, true, false, false, false] { tmps := #[r0, .pointer (some ⟨S0, 0, none⟩), r2, r3, undef, .pointer (some ⟨o, 0, none⟩), .pointer (some ⟨pB, 0, none⟩), .pointer (some ⟨pK, 0, none⟩), undef, undef, undef, undef, undef, .int .i64 (n : Int), .slice (some ⟨xB, 0, none⟩) n n, .int .i64 (n : Int), .slice (some ⟨xK, 0, none⟩) n n, .int .i64 (n : Int), undef, undef, undef, undef, undef, undef, undef, undef, undef, undef, undef, undef, undef, undef, undef, undef, undef, undef, undef, undef, undef, undef, undef, undef, undef, undef, undef, undef, undef, undef, undef, undef, undef, undef, undef], defers := [] } wr := by
    intro wr xB xK pB pK HF
    refine wpAnyH_ready (rs := [5, 8]) (by kernel_rfl) (by simp) ?_
    refine (AllReadyH.cons (o := { dst := some 18, op := Op.makeSlice 39 (Operand.tmp 17) (Operand.tmp 17), type := 39, pos := "search.go:21", after := #[{ on := 4, ground := Ground.data }, { on := 4, ground := Ground.data }], guard := none }) rfl (fun K hK => ?_) (AllReadyH.cons (o := { dst := none, op := Op.store 61 (Operand.tmp 6) (Operand.tmp 14), type := 0, pos := "search.go:21", after := #[{ on := 6, ground := Ground.data }, { on := 1, ground := Ground.data }, { on := 0, ground := Ground.phase }, { on := 1, ground := Ground.phase }, { on := 2, ground := Ground.textOnly Departure.lateStores }, { on := 3, ground := Ground.textOnly Departure.lateStoresUnsure }, { on := 4, ground := Ground.textOnly Departure.lateStores }, { on := 5, ground := Ground.textOnly Departure.lateStoresUnsure }, { on := 6, ground := Ground.phase }, { on := 7, ground := Ground.phase }], guard := none }) rfl (fun K hK => ?_) AllReadyH.nil))
    · skip
      go_simp
      refine hK.out _ _ (HF.addD.c0) (fun _ => ?_)
      clear hK K
      exact n_1_3_5_6_7 _ (xB) (xK) (wr.heap.size) (pB) (pK) (HF.addD)
    · skip
      have hp := (HF.hpB _ rfl).1
      have c0 := cell_of_row wr pB 0 _ _ _ hp
      have f0 := frozen_of_row wr pB 0 _ _ hp
      simp only [List.getElem?_toArray, List.getElem?_cons_zero] at c0
      have hs : L0 _ _ _ _ _ _ _ (some (pB, some xB)) _ _ := HF.stB
      clear hp
      go_simp
      refine hK.out _ _ (hs.c0) (fun _ => ?_)
      clear hK K
      exact n_1_3_6_7_8 _ (xB) (xK) (pB) (pK) (hs)
  have n_1_6_7_8 : ∀ (wr : World) (xB pB pK : Nat), L0 n o S0 W (some xB) none none (some (pB, some xB)) (some (pK, none)) wr → wpAnyH Try.prog .any seOps Q (fun w' => w'.cell? ⟨S0, 0, none⟩ = some (.int .i64 (n : Int))) 4 #[true, true, true, false, true, false, true, true, true, false, false] { tmps := #[r0, .pointer (some ⟨S0, 0, none⟩), r2, r3, undef, .pointer (some ⟨o, 0, none⟩), .pointer (some ⟨pB, 0, none⟩), .pointer (some ⟨pK, 0, none⟩), undef, undef, undef, undef, undef, .int .i64 (n : Int), .slice (some ⟨xB, 0, none⟩) n n, .int .i64 (n : Int), undef, .int .i64 (n : Int), undef, undef, undef, undef, undef, undef, undef, undef, undef, undef, undef, undef, undef, undef, undef, undef, undef, undef, undef, undef, undef, undef, undef, undef, undef, undef, undef, undef, undef, undef, undef, undef, undef, undef, undef], defers := [] } wr := by
    intro wr xB pB pK HF
    refine wpAnyH_ready (rs := [3, 5]) (by kernel_rfl) (by simp) ?_
    refine (AllReadyH.cons (o := { dst := some 16, op := Op.makeSlice 39 (Operand.tmp 15) (Operand.tmp 15), type := 39, pos := "search.go:21", after := #[{ on := 2, ground := Ground.data }, { on := 2, ground := Ground.data }], guard := none }) rfl (fun K hK => ?_) (AllReadyH.cons (o := { dst := some 18, op := Op.makeSlice 39 (Operand.tmp 17) (Operand.tmp 17), type := 39, pos := "search.go:21", after := #[{ on := 4, ground := Ground.data }, { on := 4, ground := Ground.data }], guard := none }) rfl (fun K hK => ?_) AllReadyH.nil))
    · skip
      go_simp
      refine hK.out _ _ (HF.addK.c0) (fun _ => ?_)
      clear hK K
      exact n_1_3_6_7_8 _ (xB) (wr.heap.size) (pB) (pK) (HF.addK)
    · skip
      go_simp
      refine hK.out _ _ (HF.addD.c0) (fun _ => ?_)
      clear hK K
      exact n_1_5_6_7_8 _ (xB) (wr.heap.size) (pB) (pK) (HF.addD)
  have n_1_3_5_7 : ∀ (wr : World) (xB xK xD pK : Nat), L0 n o S0 W (some xB) (some xK) (some xD) none (some (pK, none)) wr → wpAnyH Try.prog .any seOps Q (fun w' => w'.cell? ⟨S0, 0, none⟩ = some (.int .i64 (n : Int))) 4 #[true, true, true, true, true, true, false, true, false, false, false] { tmps := #[r0, .pointer (some ⟨S0, 0, none⟩), r2, r3, undef, .pointer (some ⟨o, 0, none⟩), undef, .pointer (some ⟨pK, 0, none⟩), undef, undef, undef, undef, undef, .int .i64 (n : Int), .slice (some ⟨xB, 0, none⟩) n n, .int .i64 (n : Int), .slice (some ⟨xK, 0, none⟩) n n, .int .i64 (n : Int), .slice (some ⟨xD, 0, none⟩) n n, undef, undef, undef, undef, undef, undef, undef, undef, undef, undef, undef, undef, undef, undef, undef, undef, undef, undef, undef, undef, undef, undef, undef, undef, undef, undef, undef, undef, undef, undef, undef, undef, undef, undef], defers := [] } wr := by
    intro wr xB xK xD pK HF
    refine wpAnyH_ready (rs := [6]) (by kernel_rfl) (by simp) ?_
    refine (AllReadyH.cons (o := { dst := some 6, op := Op.alloc 61, type := 0, pos := "search.go:21", after := #[], guard := none }) rfl (fun K hK => ?_) AllReadyH.nil)
    · skip
      go_simp
      refine hK.out _ _ (HF.addPB.c0) (fun _ => ?_)
      clear hK K
      exact n_1_3_5_6_7 _ (xB) (xK) (xD) (wr.heap.size) (pK) (HF.addPB)
  have n_1_3_5_6 : ∀ (wr : World) (xB xK xD pB : Nat), L0 n o S0 W (some xB) (some xK) (some xD) (some (pB, none)) none wr → wpAnyH Try.prog .any seOps Q (fun w' => w'.cell? ⟨S0, 0, none⟩ = some (.int .i64 (n : Int))) 4 #[true, true, true, true, true, true, true, false, false, false, false] { tmps := #[r0, .pointer (some ⟨S0, 0, none⟩), r2, r3, undef, .pointer (some ⟨o, 0, none⟩), .pointer (some ⟨pB, 0, none⟩), undef, undef, undef, undef, undef, undef, .int .i64 (n : Int), .slice (some ⟨xB, 0, none⟩) n n, .int .i64 (n : Int), .slice (some ⟨xK, 0, none⟩) n n, .int .i64 (n : Int), .slice (some ⟨xD, 0, none⟩) n n, undef, undef, undef, undef, undef, undef, undef, undef, undef, undef, undef, undef, undef, undef, undef, undef, undef, undef, undef, undef, undef, undef, undef, undef, undef, undef, undef, undef, undef, undef, undef, undef, undef, undef], defers := [] } wr := by
    intro wr xB xK xD pB HF
    refine wpAnyH_ready (rs := [7]) (by kernel_rfl) (by simp) ?_
    refine (AllReadyH.cons (o := { dst := some 7, op := Op.alloc 39, type := 0, pos := "search.go:21", after := #[], guard := none }) rfl (fun K hK => ?_) AllReadyH.nil)
    · skip
      go_simp
      refine hK.out _ _ (HF.addPK.c0) (fun _ => ?_)
      clear hK K
      exact n_1_3_5_6_7 _ (xB) (xK) (xD) (pB) (wr.heap.size) (HF.addPK)
  have n_5_6_7 : ∀ (wr : World) (xD pB pK : Nat), L0 n o S0 W none none (some xD) (some (pB, none)) (some (pK, none)) wr → wpAnyH Try.prog .any seOps Q (fun w' => w'.cell? ⟨S0, 0, none⟩ = some (.int .i64 (n : Int))) 5 #[true, false, true, false, true, true, true, true, false, false, false] { tmps := #[r0, .pointer (some ⟨S0, 0, none⟩), r2, r3, undef, .pointer (some ⟨o, 0, none⟩), .pointer (some ⟨pB, 0, none⟩), .pointer (some ⟨pK, 0, none⟩), undef, undef, undef, undef, undef, .int .i64 (n : Int), undef, .int .i64 (n : Int), undef, .int .i64 (n : Int), .slice (some ⟨xD, 0, none⟩) n n, undef, undef, undef, undef, undef, undef, undef, undef, undef, undef, undef, undef, undef, undef, undef, undef, undef, undef, undef, undef, undef, undef, undef, undef, undef, undef, undef, undef, undef, undef, undef, undef, undef, undef], defers := [] } wr := by
    intro wr xD pB pK HF
    refine wpAnyH_ready (rs := [1, 3]) (by kernel_rfl) (by simp) ?_
    refine (AllReadyH.cons (o := { dst := some 14, op := Op.makeSlice 61 (Operand.tmp 13) (Operand.tmp 13), type := 61, pos := "search.go:21", after := #[{ on := 0, ground := Ground.data }, { on := 0, ground := Ground.data }], guard := none }) rfl (fun K hK => ?_) (AllReadyH.cons (o := { dst := some 16, op := Op.makeSlice 39 (Operand.tmp 15) (Operand.tmp 15), type := 39, pos := "search.go:21", after := #[{ on := 2, ground := Ground.data }, { on := 2, ground := Ground.data }], guard := none }) rfl (fun K hK => ?_) AllReadyH.nil))
    · skip
      go_simp
      refine hK.out _ _ (HF.addB.c0) (fun _ => ?_)
      clear hK K
      exact n_1_5_6_7 _ (wr.heap.size) (xD) (pB) (pK) (HF.addB)
    · skip
      go_simp
      refine hK.out _ _ (HF.addK.c0) (fun _ => ?_)
      clear hK K
      exact n_3_5_6_7 _ (wr.heap.size) (xD) (pB) (pK) (HF.addK)
  have n_3_6_7 : ∀ (wr : World) (xK pB pK : Nat), L0 n o S0 W none (some xK) none (some (pB, none)) (some (pK, none)) wr → wpAnyH Try.prog .any seOps Q (fun w' => w'.cell? ⟨S0, 0, none⟩ = some (.int .i64 (n : Int))) 5 #[true, false, true, true, true, false, true, true, false, false, false] { tmps := #[r0, .pointer (some ⟨S0, 0, none⟩), r2, r3, undef, .pointer (some ⟨o, 0, none⟩), .pointer (some ⟨pB, 0, none⟩), .pointer (some ⟨pK, 0, none⟩), undef, undef, undef, undef, undef, .int .i64 (n : Int), undef, .int .i64 (n : Int), .slice (some ⟨xK, 0, none⟩) n n, .int .i64 (n : Int), undef, undef, undef, undef, undef, undef, undef, undef, undef, undef, undef, undef, undef, undef, undef, undef, undef, undef, undef, undef, undef, undef, undef, undef, undef, undef, undef, undef, undef, undef, undef, undef, undef, undef, undef], defers := [] } wr := by
    intro wr xK pB pK HF
    refine wpAnyH_ready (rs := [1, 5]) (by kernel_rfl) (by simp) ?_
    refine (AllReadyH.cons (o := { dst := some 14, op := Op.makeSlice 61 (Operand.tmp 13) (Operand.tmp 13), type := 61, pos := "search.go:21", after := #[{ on := 0, ground := Ground.data }, { on := 0, ground := Ground.data }], guard := none }) rfl (fun K hK => ?_) (AllReadyH.cons (o := { dst := some 18, op := Op.makeSlice 39 (Operand.tmp 17) (Operand.tmp 17), type := 39, pos := "search.go:21", after := #[{ on := 4, ground := Ground.data }, { on := 4, ground := Ground.data }], guard := none }) rfl (fun K hK => ?_) AllReadyH.nil))
    · skip
      go_simp
      refine hK.out _ _ (HF.addB.c0) (fun _ => ?_)
      clear hK K
      exact n_1_3_6_7 _ (wr.heap.size) (xK) (pB) (pK) (HF.addB)
    · skip
      go_simp
      refine hK.out _ _ (HF.addD.c0) (fun _ => ?_)
      clear hK K
      exact n_3_5_6_7 _ (xK) (wr.heap.size) (pB) (pK) (HF.addD)
  have n_1_6_7 : ∀ (wr : World) (xB pB pK : Nat), L0 n o S0 W (some xB) none none (some (pB, none)) (some (pK, none)) wr → wpAnyH Try.prog .any seOps Q (fun w' => w'.cell? ⟨S0, 0, none⟩ = some (.int .i64 (n : Int))) 5 #[true, true, true, false, true, false, true, true, false, false, false] { tmps := #[r0, .pointer (some ⟨S0, 0, none⟩), r2, r3, undef, .pointer (some ⟨o, 0, none⟩), .pointer (some ⟨pB, 0, none⟩), .pointer (some ⟨pK, 0, none⟩), undef, undef, undef, undef, undef, .int .i64 (n : Int), .slice (some ⟨xB, 0, none⟩) n n, .int .i64 (n : Int), undef, .int .i64 (n : Int), undef, undef, undef, undef, undef, undef, undef, undef, undef, undef, undef, undef, undef, undef, undef, undef, undef, undef, undef, undef, undef, undef, undef, undef, undef, undef, undef, undef, undef, undef, undef, undef, undef, undef, undef], defers := [] } wr := by
    intro wr xB pB pK HF
    refine wpAnyH_ready (rs := [3, 5, 8]) (by kernel_rfl) (by simp) ?_
    refine (AllReadyH.cons (o := { dst := some 16, op := Op.makeSlice 39 (Operand.tmp 15) (Operand.tmp 15), type := 39, pos := "search.go:21", after := #[{ on := 2, ground := Ground.data }, { on := 2, ground := Ground.data }], guard := none }) rfl (fun K hK => ?_) (AllReadyH.cons (o := { dst := some 18, op := Op.makeSlice 39 (Operand.tmp 17) (Operand.tmp 17), type := 39, pos := "search.go:21", after := #[{ on := 4, ground := Ground.data }, { on := 4, ground := Ground.data }], guard := none }) rfl (fun K hK => ?_) (AllReadyH.cons (o := { dst := none, op := Op.store 61 (Operand.tmp 6) (Operand.tmp 14), type := 0, pos := "search.go:21", after := #[{ on := 6, ground := Ground.data }, { on := 1, ground := Ground.data }, { on := 0, ground := Ground.phase }, { on := 1, ground := Ground.phase }, { on := 2, ground := Ground.textOnly Departure.lateStores }, { on := 3, ground := Ground.textOnly Departure.lateStoresUnsure }, { on := 4, ground := Ground.textOnly Departure.lateStores }, { on := 5, ground := Ground.textOnly Departure.lateStoresUnsure }, { on := 6, ground := Ground.phase }, { on := 7, ground := Ground.phase }], guard := none }) rfl (fun K hK => ?_) AllReadyH.nil)))
    · skip
      go_simp
      refine hK.out _ _ (HF.addK.c0) (fun _ => ?_)
      clear hK K
      exact n_1_3_6_7 _ (xB) (wr.heap.size) (pB) (pK) (HF.addK)
    · skip
      go_simp
      refine hK.out _ _ (HF.addD.c0) (fun _ => ?_)
      clear hK K
      exact n_1_5_6_7 _ (xB) (wr.heap.size) (pB) (pK) (HF.addD)
    · skip
      have hp := (HF.hpB _ rfl).1
      have c0 := cell_of_row wr pB 0 _ _ _ hp
      have f0 := frozen_of_row wr pB 0 _ _ hp
      simp only [List.getElem?_toArray, List.getElem?_cons_zero] at c0
      have hs : L0 _ _ _ _ _ _ _ (some (pB, some xB)) _ _ := HF.stB
      clear hp
      go_simp
      refine hK.out _ _ (hs.c0) (fun _ => ?_)
      clear hK K
      exact n_1_6_7_8 _ (xB) (pB) (pK) (hs)
  have n_3_5_7 : ∀ (wr : World) (xK xD pK : Nat), L0 n o S0 W none (some xK) (some xD) none (some (pK, none)) wr → wpAnyH Try.prog .any seOps Q (fun w' => w'.cell? ⟨S0, 0, none⟩ = some (.int .i64 (n : Int))) 5 #[true, false, true, true, true, true, false, true, false, false, false] { tmps := #[r0, .pointer (some ⟨S0, 0, none⟩), r2, r3, undef, .pointer (some ⟨o, 0, none⟩), undef, .pointer (some ⟨pK, 0, none⟩), undef, undef, undef, undef, undef, .int .i64 (n : Int), undef, .int .i64 (n : Int), .slice (some ⟨xK, 0, none⟩) n n, .int .i64 (n : Int), .slice (some ⟨xD, 0, none⟩) n n, undef, undef, undef, undef, undef, undef, undef, undef, undef, undef, undef, undef, undef, undef, undef, undef, undef, undef, undef, undef, undef, undef, undef, undef, undef, undef, undef, undef, undef, undef, undef, undef, undef, undef], defers := [] } wr := by
    intro wr xK xD pK HF
    refine wpAnyH_ready (rs := [1, 6]) (by kernel_rfl) (by simp) ?_
    refine (AllReadyH.cons (o := { dst := some 14, op := Op.makeSlice 61 (Operand.tmp 13) (Operand.tmp 13), type := 61, pos := "search.go:21", after := #[{ on := 0, ground := Ground.data }, { on := 0, ground := Ground.data }], guard := none }) rfl (fun K hK => ?_) (AllReadyH.cons (o := { dst := some 6, op := Op.alloc 61, type := 0, pos := "search.go:21", after := #[], guard := none }) rfl (fun K hK => ?_) AllReadyH.nil))
    · skip
      go_simp
      refine hK.out _ _ (HF.addB.c0) (fun _ => ?_)
      clear hK K
      exact n_1_3_5_7 _ (wr.heap.size) (xK) (xD) (pK) (HF.addB)
    · skip
      go_simp
      refine hK.out _ _ (HF.addPB.c0) (fun _ => ?_)
      clear hK K
      exact n_3_5_6_7 _ (xK) (xD) (wr.heap.size) (pK) (HF.addPB)
  have n_1_5_7 : ∀ (wr : World) (xB xD pK : Nat), L0 n o S0 W (some xB) none (some xD) none (some (pK, none)) wr → wpAnyH Try.prog .any seOps Q (fun w' => w'.cell? ⟨S0, 0, none⟩ = some (.int .i64 (n : Int))) 5 #[true, true, true, false, true, true, false, true, false, false, false] { tmps := #[r0, .pointer (some ⟨S0, 0, none⟩), r2, r3, undef, .pointer (some ⟨o, 0, none⟩), undef, .pointer (some ⟨pK, 0, none⟩), undef, undef, undef, undef, undef, .int .i64 (n : Int), .slice (some ⟨xB, 0, none⟩) n n, .int .i64 (n : Int), undef, .int .i64 (n : Int), .slice (some ⟨xD, 0, none⟩) n n, undef, undef, undef, undef, undef, undef, undef, undef, undef, undef, undef, undef, undef, undef, undef, undef, undef, undef, undef, undef, undef, undef, undef, undef, undef, undef, undef, undef, undef, undef, undef, undef, undef, undef], defers := [] } wr := by
    intro wr xB xD pK HF
    refine wpAnyH_ready (rs := [3, 6]) (by kernel_rfl) (by simp) ?_
    refine (AllReadyH.cons (o := { dst := some 16, op := Op.makeSlice 39 (Operand.tmp 15) (Operand.tmp 15), type := 39, pos := "search.go:21", after := #[{ on := 2, ground := Ground.data }, { on := 2, ground := Ground.data }], guard := none }) rfl (fun K hK => ?_) (AllReadyH.cons (o := { dst := some 6, op := Op.alloc 61, type := 0, pos := "search.go:21", after := #[], guard := none }) rfl (fun K hK => ?_) AllReadyH.nil))
    · skip
      go_simp
      refine hK.out _ _ (HF.addK.c0) (fun _ => ?_)
      clear hK K
      exact n_1_3_5_7 _ (xB) (wr.heap.size) (xD) (pK) (HF.addK)
    · skip
      go_simp
      refine hK.out _ _ (HF.addPB.c0) (fun _ => ?_)
      clear hK K
      exact n_1_5_6_7 _ (xB) (xD) (wr.heap.size) (pK) (HF.addPB)
  have n_1_3_7 : ∀ (wr : World) (xB xK pK : Nat), L0 n o S0 W (some xB) (some xK) none none (some (pK, none)) wr → wpAnyH Try.prog .any seOps Q (fun w' => w'.cell? ⟨S0, 0, none⟩ = some (.int .i64 (n : Int))) 5 #[true, true, true, true, true, false, false, true, false, false, false] { tmps := #[r0, .pointer (some ⟨S0, 0, none⟩), r2, r3, undef, .pointer (some ⟨o, 0, none⟩), undef, .pointer (some ⟨pK, 0, none⟩), undef, undef, undef, undef, undef, .int .i64 (n : Int), .slice (some ⟨xB, 0, none⟩) n n, .int .i64 (n : Int), .slice (some ⟨xK, 0, none⟩) n n, .int .i64 (n : Int), undef, undef, undef, undef, undef, undef, undef, undef, undef, undef, undef, undef, undef, undef, undef, undef, undef, undef, undef, undef, undef, undef, undef, undef, undef, undef, undef, undef, undef, undef, undef, undef, undef, undef, undef], defers := [] } wr := by
    intro wr xB xK pK HF
    refine wpAnyH_ready (rs := [5, 6]) (by kernel_rfl) (by simp) ?_
    refine (AllReadyH.cons (o := { dst := some 18, op := Op.makeSlice 39 (Operand.tmp 17) (Operand.tmp 17), type := 39, pos := "search.go:21", after := #[{ on := 4, ground := Ground.data }, { on := 4, ground := Ground.data }], guard := none }) rfl (fun K hK => ?_) (AllReadyH.cons (o := { dst := some 6, op := Op.alloc 61, type := 0, pos := "search.go:21", after := #[], guard := none }) rfl (fun K hK => ?_) AllReadyH.nil))
    · skip
      go_simp
      refine hK.out _ _ (HF.addD.c0) (fun _ => ?_)
      clear hK K
      exact n_1_3_5_7 _ (xB) (xK) (wr.heap.size) (pK) (HF.addD)
    · skip
      go_simp
      refine hK.out _ _ (HF.addPB.c0) (fun _ => ?_)
      clear hK K
      exact n_1_3_6_7 _ (xB) (xK) (wr.heap.size) (pK) (HF.addPB)
  have n_3_5_6 : ∀ (wr : World) (xK xD pB : Nat), L0 n o S0 W none (some xK) (some xD) (some (pB, none)) none wr → wpAnyH Try.prog .any seOps Q (fun w' => w'.cell? ⟨S0, 0, none⟩ = some (.int .i64 (n : Int))) 5 #[true, false, true, true, true, true, true, false, false, false, false] { tmps := #[r0, .pointer (some ⟨S0, 0, none⟩), r2, r3, undef, .pointer (some ⟨o, 0, none⟩), .pointer (some ⟨pB, 0, none⟩), undef, undef, undef, undef, undef, undef, .int .i64 (n : Int), undef, .int .i64 (n : Int), .slice (some ⟨xK, 0, none⟩) n n, .int .i64 (n : Int), .slice (some ⟨xD, 0, none⟩) n n, undef, undef, undef, undef, undef, undef, undef, undef, undef, undef, undef, undef, undef, undef, undef, undef, undef, undef, undef, undef, undef, undef, undef, undef, undef, undef, undef, undef, undef, undef, undef, undef, undef, undef], defers := [] } wr := by
    intro wr xK xD pB HF
    refine wpAnyH_ready (rs := [1, 7]) (by kernel_rfl) (by simp) ?_
    refine (AllReadyH.cons (o := { dst := some 14, op := Op.makeSlice 61 (Operand.tmp 13) (Operand.tmp 13), type := 61, pos := "search.go:21", after := #[{ on := 0, ground := Ground.data }, { on := 0, ground := Ground.data }], guard := none }) rfl (fun K hK => ?_) (AllReadyH.cons (o := { dst := some 7, op := Op.alloc 39, type := 0, pos := "search.go:21", after := #[], guard := none }) rfl (fun K hK => ?_) AllReadyH.nil))
    · skip
      go_simp
      refine hK.out _ _ (HF.addB.c0) (fun _ => ?_)
      clear hK K
      exact n_1_3_5_6 _ (wr.heap.size) (xK) (xD) (pB) (HF.addB)
    · skip
      go_simp
      refine hK.out _ _ (HF.addPK.c0) (fun _ => ?_)
      clear hK K
      exact n_3_5_6_7 _ (xK) (xD) (pB) (wr.heap.size) (HF.addPK)
  have n_1_5_6 : ∀ (wr : World) (xB xD pB : Nat), L0 n o S0 W (some xB) none (some xD) (some (pB, none)) none wr → wpAnyH Try.prog .any seOps Q (fun w' => w'.cell? ⟨S0, 0, none⟩ = some (.int .i64 (n : Int))) 5 #[true, true, true, false, true, true, true, false, false, false, false] { tmps := #[r0, .pointer (some ⟨S0, 0, none⟩), r2, r3, undef, .pointer (some ⟨o, 0, none⟩), .pointer (some ⟨pB, 0, none⟩), undef, undef, undef, undef, undef, undef, .int .i64 (n : Int), .slice (some ⟨xB, 0, none⟩) n n, .int .i64 (n : Int), undef, .int .i64 (n : Int), .slice (some ⟨xD, 0, none⟩) n n, undef, undef, undef, undef, undef, undef, undef, undef, undef, undef, undef, undef, undef, undef, undef, undef, undef, undef, undef, undef, undef, undef, undef, undef, undef, undef, undef, undef, undef, undef, undef, undef, undef, undef], defers := [] } wr := by
    intro wr xB xD pB HF
    refine wpAnyH_ready (rs := [3, 7]) (by kernel_rfl) (by simp) ?_
    refine (AllReadyH.cons (o := { dst := some 16, op := Op.makeSlice 39 (Operand.tmp 15) (Operand.tmp 15), type := 39, pos := "search.go:21", after := #[{ on := 2, ground := Ground.data }, { on := 2, ground := Ground.data }], guard := none }) rfl (fun K hK => ?_) (AllReadyH.cons (o := { dst := some 7, op := Op.alloc 39, type := 0, pos := "search.go:21", after := #[], guard := none }) rfl (fun K hK => ?_) AllReadyH.nil))
    · skip
      go_simp
      refine hK.out _ _ (HF.addK.c0) (fun _ => ?_)
      clear hK K
      exact n_1_3_5_6 _ (xB) (wr.heap.size) (xD) (pB) (HF.addK)
    · skip
      go_simp
      refine hK.out _ _ (HF.addPK.c0) (fun _ => ?_)
      clear hK K
      exact n_1_5_6_7 _ (xB) (xD) (pB) (wr.heap.size) (HF.addPK)
  have n_1_3_6 : ∀ (wr : World) (xB xK pB : Nat), L0 n o S0 W (some xB) (some xK) none (some (pB, none)) none wr → wpAnyH Try.prog .any seOps Q (fun w' => w'.cell? ⟨S0, 0, none⟩ = some (.int .i64 (n : Int))) 5 #[true, true, true, true, true, false, true, false, false, false, false] { tmps := #[r0, .pointer (some ⟨S0, 0, none⟩), r2, r3, undef, .pointer (some ⟨o, 0, none⟩), .pointer (some ⟨pB, 0, none⟩), undef, undef, undef, undef, undef, undef, .int .i64 (n : Int), .slice (some ⟨xB, 0, none⟩) n n, .int .i64 (n : Int), .slice (some ⟨xK, 0, none⟩) n n, .int .i64 (n : Int), undef, undef, undef, undef, undef, undef, undef, undef, undef, undef, undef, undef, undef, undef, undef, undef, undef, undef, undef, undef, undef, undef, undef, undef, undef, undef, undef, undef, undef, undef, undef, undef, undef, undef, undef], defers := [] } wr := by
    intro wr xB xK pB HF
    refine wpAnyH_ready (rs := [5, 7]) (by kernel_rfl) (by simp) ?_
    refine (AllReadyH.cons (o := { dst := some 18, op := Op.makeSlice 39 (Operand.tmp 17) (Operand.tmp 17), type := 39, pos := "search.go:21", after := #[{ on := 4, ground := Ground.data }, { on := 4, ground := Ground.data }], guard := none }) rfl (fun K hK => ?_) (AllReadyH.cons (o := { dst := some 7, op := Op.alloc 39, type := 0, pos := "search.go:21", after := #[], guard := none }) rfl (fun K hK => ?_) AllReadyH.nil))
    · skip
      go_simp
      refine hK.out _ _ (HF.addD.c0) (fun _ => ?_)
      clear hK K
      exact n_1_3_5_6 _ (xB) (xK) (wr.heap.size) (pB) (HF.addD)
    · skip
      go_simp
      refine hK.out _ _ (HF.addPK.c0) (fun _ => ?_)
      clear hK K
      exact n_1_3_6_7 _ (xB) (xK) (pB) (wr.heap.size) (HF.addPK)
  have n_1_3_5 : ∀ (wr : World) (xB xK xD : Nat), L0 n o S0 W (some xB) (some xK) (some xD) none none wr → wpAnyH Try.prog .any seOps Q (fun w' => w'.cell? ⟨S0, 0, none⟩ = some (.int .i64 (n : Int))) 5 #[true, true, true, true, true, true, false, false, false, false, false] { tmps := #[r0, .pointer (some ⟨S0, 0, none⟩), r2, r3, undef, .pointer (some ⟨o, 0, none⟩), undef, undef, undef, undef, undef, undef, undef, .int .i64 (n : Int), .slice (some ⟨xB, 0, none⟩) n n, .int .i64 (n : Int), .slice (some ⟨xK, 0, none⟩) n n, .int .i64 (n : Int), .slice (some ⟨xD, 0, none⟩) n n, undef, undef, undef, undef, undef, undef, undef, undef, undef, undef, undef, undef, undef, undef, undef, undef, undef, undef, undef, undef, undef, undef, undef, undef, undef, undef, undef, undef, undef, undef, undef, undef, undef, undef], defers := [] } wr := by
    intro wr xB xK xD HF
    refine wpAnyH_ready (rs := [6, 7]) (by kernel_rfl) (by simp) ?_
    refine (AllReadyH.cons (o := { dst := some 6, op := Op.alloc 61, type := 0, pos := "search.go:21", after := #[], guard := none }) rfl (fun K hK => ?_) (AllReadyH.cons (o := { dst := some 7, op := Op.alloc 39, type := 0, pos := "search.go:21", after := #[], guard := none }) rfl (fun K hK => ?_) AllReadyH.nil))
    · skip
      go_simp
      refine hK.out _ _ (HF.addPB.c0) (fun _ => ?_)
      clear hK K
      exact n_1_3_5_6 _ (xB) (xK) (xD) (wr.heap.size) (HF.addPB)
    · skip
      go_simp
      refine hK.out _ _ (HF.addPK.c0) (fun _ => ?_)
      clear hK K
      exact n_1_3_5_7 _ (xB) (xK) (xD) (wr.heap.size) (HF.addPK)
  have n_6_7 : ∀ (wr : World) (pB pK : Nat), L0 n o S0 W none none none (some (pB, none)) (some (pK, none)) wr → wpAnyH Try.prog .any seOps Q (fun w' => w'.cell? ⟨S0, 0, none⟩ = some (.int .i64 (n : Int))) 6 #[true, false, true, false, true, false, true, true, false, false, false] { tmps := #[r0, .pointer (some ⟨S0, 0, none⟩), r2, r3, undef, .pointer (some ⟨o, 0, none⟩), .pointer (some ⟨pB, 0, none⟩), .pointer (some ⟨pK, 0, none⟩), undef, undef, undef, undef, undef, .int .i64 (n : Int), undef, .int .i64 (n : Int), undef, .int .i64 (n : Int), undef, undef, undef, undef, undef, undef, undef, undef, undef, undef, undef, undef, undef, undef, undef, undef, undef, undef, undef, undef, undef, undef, undef, undef, undef, undef, undef, undef, undef, undef, undef, undef, undef, undef, undef], defers := [] } wr := by
    intro wr pB pK HF
    refine wpAnyH_ready (rs := [1, 3, 5]) (by kernel_rfl) (by simp) ?_
    refine (AllReadyH.cons (o := { dst := some 14, op := Op.makeSlice 61 (Operand.tmp 13) (Operand.tmp 13), type := 61, pos := "search.go:21", after := #[{ on := 0, ground := Ground.data }, { on := 0, ground := Ground.data }], guard := none }) rfl (fun K hK => ?_) (AllReadyH.cons (o := { dst := some 16, op := Op.makeSlice 39 (Operand.tmp 15) (Operand.tmp 15), type := 39, pos := "search.go:21", after := #[{ on := 2, ground := Ground.data }, { on := 2, ground := Ground.data }], guard := none }) rfl (fun K hK => ?_) (AllReadyH.cons (o := { dst := some 18, op := Op.makeSlice 39 (Operand.tmp 17) (Operand.tmp 17), type := 39, pos := "search.go:21", after := #[{ on := 4, ground := Ground.data }, { on := 4, ground := Ground.data }], guard := none }) rfl (fun K hK => ?_) AllReadyH.nil)))
    · skip
      go_simp
      refine hK.out _ _ (HF.addB.c0) (fun _ => ?_)
      clear hK K
      exact n_1_6_7 _ (wr.heap.size) (pB) (pK) (HF.addB)
    · skip
      go_simp
      refine hK.out _ _ (HF.addK.c0) (fun _ => ?_)
      clear hK K
      exact n_3_6_7 _ (wr.heap.size) (pB) (pK) (HF.addK)
    · skip
      go_simp
      refine hK.out _ _ (HF.addD.c0) (fun _ => ?_)
      clear hK K
      exact n_5_6_7 _ (wr.heap.size) (pB) (pK) (HF.addD)
  have n_5_7 : ∀ (wr : World) (xD pK : Nat), L0 n o S0 W none none (some xD) none (some (pK, none)) wr → wpAnyH Try.prog .any seOps Q (fun w' => w'.cell? ⟨S0, 0, none⟩ = some (.int .i64 (n : Int))) 6 #[true, false, true, false, true, true, false, true, false, false, false] { tmps := #[r0, .pointer (some ⟨S0, 0, none⟩), r2, r3, undef, .pointer (some ⟨o, 0, none⟩), undef, .pointer (some ⟨pK, 0, none⟩), undef, undef, undef, undef, undef, .int .i64 (n : Int), undef, .int .i64 (n : Int), undef, .int .i64 (n : Int), .slice (some ⟨xD, 0, none⟩) n n, undef, undef, undef, undef, undef, undef, undef, undef, undef, undef, undef, undef, undef, undef, undef, undef, undef, undef, undef, undef, undef, undef, undef, undef, undef, undef, undef, undef, undef, undef, undef, undef, undef, undef], defers := [] } wr := by
    intro wr xD pK HF
    refine wpAnyH_ready (rs := [1, 3, 6]) (by kernel_rfl) (by simp) ?_
    refine (AllReadyH.cons (o := { dst := some 14, op := Op.makeSlice 61 (Operand.tmp 13) (Operand.tmp 13), type := 61, pos := "search.go:21", after := #[{ on := 0, ground := Ground.data }, { on := 0, ground := Ground.data }], guard := none }) rfl (fun K hK => ?_) (AllReadyH.cons (o := { dst := some 16, op := Op.makeSlice 39 (Operand.tmp 15) (Operand.tmp 15), type := 39, pos := "search.go:21", after := #[{ on := 2, ground := Ground.data }, { on := 2, ground := Ground.data }], guard := none }) rfl (fun K hK => ?_) (AllReadyH.cons (o := { dst := some 6, op := Op.alloc 61, type := 0, pos := "search.go:21", after := #[], guard := none }) rfl (fun K hK => ?_) AllReadyH.nil)))
    · skip
      go_simp
      refine hK.out _ _ (HF.addB.c0) (fun _ => ?_)
      clear hK K
      exact n_1_5_7 _ (wr.heap.size) (xD) (pK) (HF.addB)
    · skip
      go_simp
      refine hK.out _ _ (HF.addK.c0) (fun _ => ?_)
      clear hK K
      exact n_3_5_7 _ (wr.heap.size) (xD) (pK) (HF.addK)
    · skip
      go_simp
      refine hK.out _ _ (HF.addPB.c0) (fun _ => ?_)
      clear hK K
      exact n_5_6_7 _ (xD) (wr.heap.size) (pK) (HF.addPB)
  have n_3_7 : ∀ (wr : World) (xK pK : Nat), L0 n o S0 W none (some xK) none none (some (pK, none)) wr → wpAnyH Try.prog .any seOps Q (fun w' => w'.cell? ⟨S0, 0, none⟩ = some (.int .i64 (n : Int))) 6 #[true, false, true, true, true, false, false, true, false, false, false] { tmps := #[r0, .pointer (some ⟨S0, 0, none⟩), r2, r3, undef, .pointer (some ⟨o, 0, none⟩), undef, .pointer (some ⟨pK, 0, none⟩), undef, undef, undef, undef, undef, .int .i64 (n : Int), undef, .int .i64 (n : Int), .slice (some ⟨xK, 0, none⟩) n n, .int .i64 (n : Int), undef, undef, undef, undef, undef, undef, undef, undef, undef, undef, undef, undef, undef, undef, undef, undef, undef, undef, undef, undef, undef, undef, undef, undef, undef, undef, undef, undef, undef, undef, undef, undef, undef, undef, undef], defers := [] } wr := by
    intro wr xK pK HF
    refine wpAnyH_ready (rs := [1, 5, 6]) (by kernel_rfl) (by simp) ?_
    refine (AllReadyH.cons (o := { dst := some 14, op := Op.makeSlice 61 (Operand.tmp 13) (Operand.tmp 13), type := 61, pos := "search.go:21", after := #[{ on := 0, ground := Ground.data }, { on := 0, ground := Ground.data }], guard := none }) rfl (fun K hK => ?_) (AllReadyH.cons (o := { dst := some 18, op := Op.makeSlice 39 (Operand.tmp 17) (Operand.tmp 17), type := 39, pos := "search.go:21", after := #[{ on := 4, ground := Ground.data }, { on := 4, ground := Ground.data }], guard := none }) rfl (fun K hK => ?_) (AllReadyH.cons (o := { dst := some 6, op := Op.alloc 61, type := 0, pos := "search.go:21", after := #[], guard := none }) rfl (fun K hK => ?_) AllReadyH.nil)))
    · skip
      go_simp
      refine hK.out _ _ (HF.addB.c0) (fun _ => ?_)
      clear hK K
      exact n_1_3_7 _ (wr.heap.size) (xK) (pK) (HF.addB)
    · skip
      go_simp
      refine hK.out _ _ (HF.addD.c0) (fun _ => ?_)
      clear hK K
      exact n_3_5_7 _ (xK) (wr.heap.size) (pK) (HF.addD)
    · skip
      go_simp
      refine hK.out _ _ (HF.addPB.c0) (fun _ => ?_)
      clear hK K
      exact n_3_6_7 _ (xK) (wr.heap.size) (pK) (HF.addPB)
  have n_1_7 : ∀ (wr : World) (xB pK : Nat), L0 n o S0 W (some xB) none none none (some (pK, none)) wr → wpAnyH Try.prog .any seOps Q (fun w' => w'.cell? ⟨S0, 0, none⟩ = some (.int .i64 (n : Int))) 6 #[true, true, true, false, true, false, false, true, false, false, false] { tmps := #[r0, .pointer (some ⟨S0, 0, none⟩), r2, r3, undef, .pointer (some ⟨o, 0, none⟩), undef, .pointer (some ⟨pK, 0, none⟩), undef, undef, undef, undef, undef, .int .i64 (n : Int), .slice (some ⟨xB, 0, none⟩) n n, .int .i64 (n : Int), undef, .int .i64 (n : Int), undef, undef, undef, undef, undef, undef, undef, undef, undef, undef, undef, undef, undef, undef, undef, undef, undef, undef, undef, undef, undef, undef, undef, undef, undef, undef, undef, undef, undef, undef, undef, undef, undef, undef, undef], defers := [] } wr := by
    intro wr xB pK HF
    refine wpAnyH_ready (rs := [3, 5, 6]) (by kernel_rfl) (by simp) ?_
    refine (AllReadyH.cons (o := { dst := some 16, op := Op.makeSlice 39 (Operand.tmp 15) (Operand.tmp 15), type := 39, pos := "search.go:21", after := #[{ on := 2, ground := Ground.data }, { on := 2, ground := Ground.data }], guard := none }) rfl (fun K hK => ?_) (AllReadyH.cons (o := { dst := some 18, op := Op.makeSlice 39 (Operand.tmp 17) (Operand.tmp 17), type := 39, pos := "search.go:21", after := #[{ on := 4, ground := Ground.data }, { on := 4, ground := Ground.data }], guard := none }) rfl (fun K hK => ?_) (AllReadyH.cons (o := { dst := some 6, op := Op.alloc 61, type := 0, pos := "search.go:21", after := #[], guard := none }) rfl (fun K hK => ?_) AllReadyH.nil)))
    · skip
      go_simp
      refine hK.out _ _ (HF.addK.c0) (fun _ => ?_)
      clear hK K
      exact n_1_3_7 _ (xB) (wr.heap.size) (pK) (HF.addK)
    · skip
      go_simp
      refine hK.out _ _ (HF.addD.c0) (fun _ => ?_)
      clear hK K
      exact n_1_5_7 _ (xB) (wr.heap.size) (pK) (HF.addD)
    · skip
      go_simp
      refine hK.out _ _ (HF.addPB.c0) (fun _ => ?_)
      clear hK K
      exact n_1_6_7 _ (xB) (wr.heap.size) (pK) (HF.addPB)
  have n_5_6 : ∀ (wr : World) (xD pB : Nat), L0 n o S0 W none none (some xD) (some (pB, none)) none wr → wpAnyH Try.prog .any seOps Q (fun w' => w'.cell? ⟨S0, 0, none⟩ = some (.int .i64 (n : Int))) 6 #[true, false, true, false, true, true, true, false, false, false, false] { tmps := #[r0, .pointer (some ⟨S0, 0, none⟩), r2, r3, undef, .pointer (some ⟨o, 0, none⟩), .pointer (some ⟨pB, 0, none⟩), undef, undef, undef, undef, undef, undef, .int .i64 (n : Int), undef, .int .i64 (n : Int), undef, .int .i64 (n : Int), .slice (some ⟨xD, 0, none⟩) n n, undef, undef, undef, undef, undef, undef, undef, undef, undef, undef, undef, undef, undef, undef, undef, undef, undef, undef, undef, undef, undef, undef, undef, undef, undef, undef, undef, undef, undef, undef, undef, undef, undef, undef], defers := [] } wr := by
    intro wr xD pB HF
    refine wpAnyH_ready (rs := [1, 3, 7]) (by kernel_rfl) (by simp) ?_
    refine (AllReadyH.cons (o := { dst := some 14, op := Op.makeSlice 61 (Operand.tmp 13) (Operand.tmp 13), type := 61, pos := "search.go:21", after := #[{ on := 0, ground := Ground.data }, { on := 0, ground := Ground.data }], guard := none }) rfl (fun K hK => ?_) (AllReadyH.cons (o := { dst := some 16, op := Op.makeSlice 39 (Operand.tmp 15) (Operand.tmp 15), type := 39, pos := "search.go:21", after := #[{ on := 2, ground := Ground.data }, { on := 2, ground := Ground.data }], guard := none }) rfl (fun K hK => ?_) (AllReadyH.cons (o := { dst := some 7, op := Op.alloc 39, type := 0, pos := "search.go:21", after := #[], guard := none }) rfl (fun K hK => ?_) AllReadyH.nil)))
    · skip
      go_simp
      refine hK.out _ _ (HF.addB.c0) (fun _ => ?_)
      clear hK K
      exact n_1_5_6 _ (wr.heap.size) (xD) (pB) (HF.addB)
    · skip
      go_simp
      refine hK.out _ _ (HF.addK.c0) (fun _ => ?_)
      clear hK K
      exact n_3_5_6 _ (wr.heap.size) (xD) (pB) (HF.addK)
    · skip
      go_simp
      refine hK.out _ _ (HF.addPK.c0) (fun _ => ?_)
      clear hK K
      exact n_5_6_7 _ (xD) (pB) (wr.heap.size) (HF.addPK)
  have n_3_6 : ∀ (wr : World) (xK pB : Nat), L0 n o S0 W none (some xK) none (some (pB, none)) none wr → wpAnyH Try.prog .any seOps Q (fun w' => w'.cell? ⟨S0, 0, none⟩ = some (.int .i64 (n : Int))) 6 #[true, false, true, true, true, false, true, false, false, false, false] { tmps := #[r0, .pointer (some ⟨S0, 0, none⟩), r2, r3, undef, .pointer (some ⟨o, 0, none⟩), .pointer (some ⟨pB, 0, none⟩), undef, undef, undef, undef, undef, undef, .int .i64 (n : Int), undef, .int .i64 (n : Int), .slice (some ⟨xK, 0, none⟩) n n, .int .i64 (n : Int), undef, undef, undef, undef, undef, undef, undef, undef, undef, undef, undef, undef, undef, undef, undef, undef, undef, undef, undef, undef, undef, undef, undef, undef, undef, undef, undef, undef, undef, undef, undef, undef, undef, undef, undef], defers := [] } wr := by
    intro wr xK pB HF
    refine wpAnyH_ready (rs := [1, 5, 7]) (by kernel_rfl) (by simp) ?_
    refine (AllReadyH.cons (o := { dst := some 14, op := Op.makeSlice 61 (Operand.tmp 13) (Operand.tmp 13), type := 61, pos := "search.go:21", after := #[{ on := 0, ground := Ground.data }, { on := 0, ground := Ground.data }], guard := none }) rfl (fun K hK => ?_) (AllReadyH.cons (o := { dst := some 18, op := Op.makeSlice 39 (Operand.tmp 17) (Operand.tmp 17), type := 39, pos := "search.go:21", after := #[{ on := 4, ground := Ground.data }, { on := 4, ground := Ground.data }], guard := none }) rfl (fun K hK => ?_) (AllReadyH.cons (o := { dst := some 7, op := Op.alloc 39, type := 0, pos := "search.go:21", after := #[], guard := none }) rfl (fun K hK => ?_) AllReadyH.nil)))
    · skip
      go_simp
      refine hK.out _ _ (HF.addB.c0) (fun _ => ?_)
      clear hK K
      exact n_1_3_6 _ (wr.heap.size) (xK) (pB) (HF.addB)
    · skip
      go_simp
      refine hK.out _ _ (HF.addD.c0) (fun _ => ?_)
      clear hK K
      exact n_3_5_6 _ (xK) (wr.heap.size) (pB) (HF.addD)
    · skip
      go_simp
      refine hK.out _ _ (HF.addPK.c0) (fun _ => ?_)
      clear hK K
      exact n_3_6_7 _ (xK) (pB) (wr.heap.size) (HF.addPK)
  have n_1_6 : ∀ (wr : World) (xB pB : Nat), L0 n o S0 W (some xB) none none (some (pB, none)) none wr → wpAnyH Try.prog .any seOps Q (fun w' => w'.cell? ⟨S0, 0, none⟩ = some (.int .i64 (n : Int))) 6 #[true, true, true, false, true, false, true, false, false, false, false] { tmps := #[r0, .pointer (some ⟨S0, 0, none⟩), r2, r3, undef, .pointer (some ⟨o, 0, none⟩), .pointer (some ⟨pB, 0, none⟩), undef, undef, undef, undef, undef, undef, .int .i64 (n : Int), .slice (some ⟨xB, 0, none⟩) n n, .int .i64 (n : Int), undef, .int .i64 (n : Int), undef, undef, undef, undef, undef, undef, undef, undef, undef, undef, undef, undef, undef, undef, undef, undef, undef, undef, undef, undef, undef, undef, undef, undef, undef, undef, undef, undef, undef, undef, undef, undef, undef, undef, undef], defers := [] } wr := by
    intro wr xB pB HF
    refine wpAnyH_ready (rs := [3, 5, 7]) (by kernel_rfl) (by simp) ?_
    refine (AllReadyH.cons (o := { dst := some 16, op := Op.makeSlice 39 (Operand.tmp 15) (Operand.tmp 15), type := 39, pos := "search.go:21", after := #[{ on := 2, ground := Ground.data }, { on := 2, ground := Ground.data }], guard := none }) rfl (fun K hK => ?_) (AllReadyH.cons (o := { dst := some 18, op := Op.makeSlice 39 (Operand.tmp 17) (Operand.tmp 17), type := 39, pos := "search.go:21", after := #[{ on := 4, ground := Ground.data }, { on := 4, ground := Ground.data }], guard := none }) rfl (fun K hK => ?_) (AllReadyH.cons (o := { dst := some 7, op := Op.alloc 39, type := 0, pos := "search.go:21", after := #[], guard := none }) rfl (fun K hK => ?_) AllReadyH.nil)))
    · skip
      go_simp
      refine hK.out _ _ (HF.addK.c0) (fun _ => ?_)
      clear hK K
      exact n_1_3_6 _ (xB) (wr.heap.size) (pB) (HF.addK)
    · skip
      go_simp
      refine hK.out _ _ (HF.addD.c0) (fun _ => ?_)
      clear hK K
      exact n_1_5_6 _ (xB) (wr.heap.size) (pB) (HF.addD)
    · skip
      go_simp
      refine hK.out _ _ (HF.addPK.c0) (fun _ => ?_)
      clear hK K
      exact n_1_6_7 _ (xB) (pB) (wr.heap.size) (HF.addPK)
  have n_3_5 : ∀ (wr : World) (xK xD : Nat), L0 n o S0 W none (some xK) (some xD) none none wr → wpAnyH Try.prog .any seOps Q (fun w' => w'.cell? ⟨S0, 0, none⟩ = some (.int .i64 (n : Int))) 6 #[true, false, true, true, true, true, false, false, false, false, false] { tmps := #[r0, .pointer (some ⟨S0, 0, none⟩), r2, r3, undef, .pointer (some ⟨o, 0, none⟩), undef, undef, undef, undef, undef, undef, undef, .int .i64 (n : Int), undef, .int .i64 (n : Int), .slice (some ⟨xK, 0, none⟩) n n, .int .i64 (n : Int), .slice (some ⟨xD, 0, none⟩) n n, undef, undef, undef, undef, undef, undef, undef, undef, undef, undef, undef, undef, undef, undef, undef, undef, undef, undef, undef, undef, undef, undef, undef, undef, undef, undef, undef, undef, undef, undef, undef, undef, undef, undef], defers := [] } wr := by
    intro wr xK xD HF
    refine wpAnyH_ready (rs := [1, 6, 7]) (by kernel_rfl) (by simp) ?_
    refine (AllReadyH.cons (o := { dst := some 14, op := Op.makeSlice 61 (Operand.tmp 13) (Operand.tmp 13), type := 61, pos := "search.go:21", after := #[{ on := 0, ground := Ground.data }, { on := 0, ground := Ground.data }], guard := none }) rfl (fun K hK => ?_) (AllReadyH.cons (o := { dst := some 6, op := Op.alloc 61, type := 0, pos := "search.go:21", after := #[], guard := none }) rfl (fun K hK => ?_) (AllReadyH.cons (o := { dst := some 7, op := Op.alloc 39, type := 0, pos := "search.go:21", after := #[], guard := none }) rfl (fun K hK => ?_) AllReadyH.nil)))
    · skip
      go_simp
      refine hK.out _ _ (HF.addB.c0) (fun _ => ?_)
      clear hK K
      exact n_1_3_5 _ (wr.heap.size) (xK) (xD) (HF.addB)
    · skip
      go_simp
      refine hK.out _ _ (HF.addPB.c0) (fun _ => ?_)
      clear hK K
      exact n_3_5_6 _ (xK) (xD) (wr.heap.size) (HF.addPB)
    · skip
      go_simp
      refine hK.out _ _ (HF.addPK.c0) (fun _ => ?_)
      clear hK K
      exact n_3_5_7 _ (xK) (xD) (wr.heap.size) (HF.addPK)
  have n_1_5 : ∀ (wr : World) (xB xD : Nat), L0 n o S0 W (some xB) none (some xD) none none wr → wpAnyH Try.prog .any seOps Q (fun w' => w'.cell? ⟨S0, 0, none⟩ = some (.int .i64 (n : Int))) 6 #[true, true, true, false, true, true, false, false, false, false, false] { tmps := #[r0, .pointer (some ⟨S0, 0, none⟩), r2, r3, undef, .pointer (some ⟨o, 0, none⟩), undef, undef, undef, undef, undef, undef, undef, .int .i64 (n : Int), .slice (some ⟨xB, 0, none⟩) n n, .int .i64 (n : Int), undef, .int .i64 (n : Int), .slice (some ⟨xD, 0, none⟩) n n, undef, undef, undef, undef, undef, undef, undef, undef, undef, undef, undef, undef, undef, undef, undef, undef, undef, undef, undef, undef, undef, undef, undef, undef, undef, undef, undef, undef, undef, undef, undef, undef, undef, undef], defers := [] } wr := by
    intro wr xB xD HF
    refine wpAnyH_ready (rs := [3, 6, 7]) (by kernel_rfl) (by simp) ?_
    refine (AllReadyH.cons (o := { dst := some 16, op := Op.makeSlice 39 (Operand.tmp 15) (Operand.tmp 15), type := 39, pos := "search.go:21", after := #[{ on := 2, ground := Ground.data }, { on := 2, ground := Ground.data }], guard := none }) rfl (fun K hK => ?_) (AllReadyH.cons (o := { dst := some 6, op := Op.alloc 61, type := 0, pos := "search.go:21", after := #[], guard := none }) rfl (fun K hK => ?_) (AllReadyH.cons (o := { dst := some 7, op := Op.alloc 39, type := 0, pos := "search.go:21", after := #[], guard := none }) rfl (fun K hK => ?_) AllReadyH.nil)))
    · skip
      go_simp
      refine hK.out _ _ (HF.addK.c0) (fun _ => ?_)
      clear hK K
      exact n_1_3_5 _ (xB) (wr.heap.size) (xD) (HF.addK)
    · skip
      go_simp
      refine hK.out _ _ (HF.addPB.c0) (fun _ => ?_)
      clear hK K
      exact n_1_5_6 _ (xB) (xD) (wr.heap.size) (HF.addPB)
    · skip
      go_simp
      refine hK.out _ _ (HF.addPK.c0) (fun _ => ?_)
      clear hK K
      exact n_1_5_7 _ (xB) (xD) (wr.heap.size) (HF.addPK)
  have n_1_3 : ∀ (wr : World) (xB xK : Nat), L0 n o S0 W (some xB) (some xK) none none none wr → wpAnyH Try.prog .any seOps Q (fun w' => w'.cell? ⟨S0, 0, none⟩ = some (.int .i64 (n : Int))) 6 #[true, true, true, true, true, false, false, false, false, false, false] { tmps := #[r0, .pointer (some ⟨S0, 0, none⟩), r2, r3, undef, .pointer (some ⟨o, 0, none⟩), undef, undef, undef, undef, undef, undef, undef, .int .i64 (n : Int), .slice (some ⟨xB, 0, none⟩) n n, .int .i64 (n : Int), .slice (some ⟨xK, 0, none⟩) n n, .int .i64 (n : Int), undef, undef, undef, undef, undef, undef, undef, undef, undef, undef, undef, undef, undef, undef, undef, undef, undef, undef, undef, undef, undef, undef, undef, undef, undef, undef, undef, undef, undef, undef, undef, undef, undef, undef, undef], defers := [] } wr := by
    intro wr xB xK HF
    refine wpAnyH_ready (rs := [5, 6, 7]) (by kernel_rfl) (by simp) ?_
    refine (AllReadyH.cons (o := { dst := some 18, op := Op.makeSlice 39 (Operand.tmp 17) (Operand.tmp 17), type := 39, pos := "search.go:21", after := #[{ on := 4, ground := Ground.data }, { on := 4, ground := Ground.data }], guard := none }) rfl (fun K hK => ?_) (AllReadyH.cons (o := { dst := some 6, op := Op.alloc 61, type := 0, pos := "search.go:21", after := #[], guard := none }) rfl (fun K hK => ?_) (AllReadyH.cons (o := { dst := some 7, op := Op.alloc 39, type := 0, pos := "search.go:21", after := #[], guard := none }) rfl (fun K hK => ?_) AllReadyH.nil)))
    · skip
      go_simp
      refine hK.out _ _ (HF.addD.c0) (fun _ => ?_)
      clear hK K
      exact n_1_3_5 _ (xB) (xK) (wr.heap.size) (HF.addD)
    · skip
      go_simp
      refine hK.out _ _ (HF.addPB.c0) (fun _ => ?_)
      clear hK K
      exact n_1_3_6 _ (xB) (xK) (wr.heap.size) (HF.addPB)
    · skip
      go_simp
      refine hK.out _ _ (HF.addPK.c0) (fun _ => ?_)
      clear hK K
      exact n_1_3_7 _ (xB) (xK) (wr.heap.size) (HF.addPK)
  have n_7 : ∀ (wr : World) (pK : Nat), L0 n o S0 W none none none none (some (pK, none)) wr → wpAnyH Try.prog .any seOps Q (fun w' => w'.cell? ⟨S0, 0, none⟩ = some (.int .i64 (n : Int))) 7 #[true, false, true, false, true, false, false, true, false, false, false] { tmps := #[r0, .pointer (some ⟨S0, 0, none⟩), r2, r3, undef, .pointer (some ⟨o, 0, none⟩), undef, .pointer (some ⟨pK, 0, none⟩), undef, undef, undef, undef, undef, .int .i64 (n : Int), undef, .int .i64 (n : Int), undef, .int .i64 (n : Int), undef, undef, undef, undef, undef, undef, undef, undef, undef, undef, undef, undef, undef, undef, undef, undef, undef, undef, undef, undef, undef, undef, undef, undef, undef, undef, undef, undef, undef, undef, undef, undef, undef, undef, undef], defers := [] } wr := by
    intro wr pK HF
    refine wpAnyH_ready (rs := [1, 3, 5, 6]) (by kernel_rfl) (by simp) ?_
    refine (AllReadyH.cons (o := { dst := some 14, op := Op.makeSlice 61 (Operand.tmp 13) (Operand.tmp 13), type := 61, pos := "search.go:21", after := #[{ on := 0, ground := Ground.data }, { on := 0, ground := Ground.data }], guard := none }) rfl (fun K hK => ?_) (AllReadyH.cons (o := { dst := some 16, op := Op.makeSlice 39 (Operand.tmp 15) (Operand.tmp 15), type := 39, pos := "search.go:21", after := #[{ on := 2, ground := Ground.data }, { on := 2, ground := Ground.data }], guard := none }) rfl (fun K hK => ?_) (AllReadyH.cons (o := { dst := some 18, op := Op.makeSlice 39 (Operand.tmp 17) (Operand.tmp 17), type := 39, pos := "search.go:21", after := #[{ on := 4, ground := Ground.data }, { on := 4, ground := Ground.data }], guard := none }) rfl (fun K hK => ?_) (AllReadyH.cons (o := { dst := some 6, op := Op.alloc 61, type := 0, pos := "search.go:21", after := #[], guard := none }) rfl (fun K hK => ?_) AllReadyH.nil))))
    · skip
      go_simp
      refine hK.out _ _ (HF.addB.c0) (fun _ => ?_)
      clear hK K
      exact n_1_7 _ (wr.heap.size) (pK) (HF.addB)
    · skip
      go_simp
      refine hK.out _ _ (HF.addK.c0) (fun _ => ?_)
      clear hK K
      exact n_3_7 _ (wr.heap.size) (pK) (HF.addK)
    · skip
      go_simp
      refine hK.out _ _ (HF.addD.c0) (fun _ => ?_)
      clear hK K
      exact n_5_7 _ (wr.heap.size) (pK) (HF.addD)
    · skip
      go_simp
      refine hK.out _ _ (HF.addPB.c0) (fun _ => ?_)
      clear hK K
      exact n_6_7 _ (wr.heap.size) (pK) (HF.addPB)
  have n_6 : ∀ (wr : World) (pB : Nat), L0 n o S0 W none none none (some (pB, none)) none wr → wpAnyH Try.prog .any seOps Q (fun w' => w'.cell? ⟨S0, 0, none⟩ = some (.int .i64 (n : Int))) 7 #[true, false, true, false, true, false, true, false, false, false, false] { tmps := #[r0, .pointer (some ⟨S0, 0, none⟩), r2, r3, undef, .pointer (some ⟨o, 0, none⟩), .pointer (some ⟨pB, 0, none⟩), undef, undef, undef, undef, undef, undef, .int .i64 (n : Int), undef, .int .i64 (n : Int), undef, .int .i64 (n : Int), undef, undef, undef, undef, undef, undef, undef, undef, undef, undef, undef, undef, undef, undef, undef, undef, undef, undef, undef, undef, undef, undef, undef, undef, undef, undef, undef, undef, undef, undef, undef, undef, undef, undef, undef], defers := [] } wr := by
    intro wr pB HF
    refine wpAnyH_ready (rs := [1, 3, 5, 7]) (by kernel_rfl) (by simp) ?_
    refine (AllReadyH.cons (o := { dst := some 14, op := Op.makeSlice 61 (Operand.tmp 13) (Operand.tmp 13), type := 61, pos := "search.go:21", after := #[{ on := 0, ground := Ground.data }, { on := 0, ground := Ground.data }], guard := none }) rfl (fun K hK => ?_) (AllReadyH.cons (o := { dst := some 16, op := Op.makeSlice 39 (Operand.tmp 15) (Operand.tmp 15), type := 39, pos := "search.go:21", after := #[{ on := 2, ground := Ground.data }, { on := 2, ground := Ground.data }], guard := none }) rfl (fun K hK => ?_) (AllReadyH.cons (o := { dst := some 18, op := Op.makeSlice 39 (Operand.tmp 17) (Operand.tmp 17), type := 39, pos := "search.go:21", after := #[{ on := 4, ground := Ground.data }, { on := 4, ground := Ground.data }], guard := none }) rfl (fun K hK => ?_) (AllReadyH.cons (o := { dst := some 7, op := Op.alloc 39, type := 0, pos := "search.go:21", after := #[], guard := none }) rfl (fun K hK => ?_) AllReadyH.nil))))
    · skip
      go_simp
      refine hK.out _ _ (HF.addB.c0) (fun _ => ?_)
      clear hK K
      exact n_1_6 _ (wr.heap.size) (pB) (HF.addB)
    · skip
      go_simp
      refine hK.out _ _ (HF.addK.c0) (fun _ => ?_)
      clear hK K
      exact n_3_6 _ (wr.heap.size) (pB) (HF.addK)
    · skip
      go_simp
      refine hK.out _ _ (HF.addD.c0) (fun _ => ?_)
      clear hK K
      exact n_5_6 _ (wr.heap.size) (pB) (HF.addD)
    · skip
      go_simp
      refine hK.out _ _ (HF.addPK.c0) (fun _ => ?_)
      clear hK K
      exact n_6_7 _ (pB) (wr.heap.size) (HF.addPK)
  have n_5 : ∀ (wr : World) (xD : Nat), L0 n o S0 W none none (some xD) none none wr → wpAnyH Try.prog .any seOps Q (fun w' => w'.cell? ⟨S0, 0, none⟩ = some (.int .i64 (n : Int))) 7 #[true, false, true, false, true, true, false, false, false, false, false] { tmps := #[r0, .pointer (some ⟨S0, 0, none⟩), r2, r3, undef, .pointer (some ⟨o, 0, none⟩), undef, undef, undef, undef, undef, undef, undef, .int .i64 (n : Int), undef, .int .i64 (n : Int), undef, .int .i64 (n : Int), .slice (some ⟨xD, 0, none⟩) n n, undef, undef, undef, undef, undef, undef, undef, undef, undef, undef, undef, undef, undef, undef, undef, undef, undef, undef, undef, undef, undef, undef, undef, undef, undef, undef, undef, undef, undef, undef, undef, undef, undef, undef], defers := [] } wr := by
    intro wr xD HF
    refine wpAnyH_ready (rs := [1, 3, 6, 7]) (by kernel_rfl) (by simp) ?_
    refine (AllReadyH.cons (o := { dst := some 14, op := Op.makeSlice 61 (Operand.tmp 13) (Operand.tmp 13), type := 61, pos := "search.go:21", after := #[{ on := 0, ground := Ground.data }, { on := 0, ground := Ground.data }], guard := none }) rfl (fun K hK => ?_) (AllReadyH.cons (o := { dst := some 16, op := Op.makeSlice 39 (Operand.tmp 15) (Operand.tmp 15), type := 39, pos := "search.go:21", after := #[{ on := 2, ground := Ground.data }, { on := 2, ground := Ground.data }], guard := none }) rfl (fun K hK => ?_) (AllReadyH.cons (o := { dst := some 6, op := Op.alloc 61, type := 0, pos := "search.go:21", after := #[], guard := none }) rfl (fun K hK => ?_) (AllReadyH.cons (o := { dst := some 7, op := Op.alloc 39, type := 0, pos := "search.go:21", after := #[], guard := none }) rfl (fun K hK => ?_) AllReadyH.nil))))
    · skip
      go_simp
      refine hK.out _ _ (HF.addB.c0) (fun _ => ?_)
      clear hK K
      exact n_1_5 _ (wr.heap.size) (xD) (HF.addB)
    · skip
      go_simp
      refine hK.out _ _ (HF.addK.c0) (fun _ => ?_)
      clear hK K
      exact n_3_5 _ (wr.heap.size) (xD) (HF.addK)
    · skip
      go_simp
      refine hK.out _ _ (HF.addPB.c0) (fun _ => ?_)
      clear hK K
      exact n_5_6 _ (xD) (wr.heap.size) (HF.addPB)
    · skip
      go_simp
      refine hK.out _ _ (HF.addPK.c0) (fun _ => ?_)
      clear hK K
      exact n_5_7 _ (xD) (wr.heap.size) (HF.addPK)
  have n_3 : ∀ (wr : World) (xK : Nat), L0 n o S0 W none (some xK) none none none wr → wpAnyH Try.prog .any seOps Q (fun w' => w'.cell? ⟨S0, 0, none⟩ = some (.int .i64 (n : Int))) 7 #[true, false, true, true, true, false, false, false, false, false, false] { tmps := #[r0, .pointer (some ⟨S0, 0, none⟩), r2, r3, undef, .pointer (some ⟨o, 0, none⟩), undef, undef, undef, undef, undef, undef, undef, .int .i64 (n : Int), undef, .int .i64 (n : Int), .slice (some ⟨xK, 0, none⟩) n n, .int .i64 (n : Int), undef, undef, undef, undef, undef, undef, undef, undef, undef, undef, undef, undef, undef, undef, undef, undef, undef, undef, undef, undef, undef, undef, undef, undef, undef, undef, undef, undef, undef, undef, undef, undef, undef, undef, undef], defers := [] } wr := by
    intro wr xK HF
    refine wpAnyH_ready (rs := [1, 5, 6, 7]) (by kernel_rfl) (by simp) ?_
    refine (AllReadyH.cons (o := { dst := some 14, op := Op.makeSlice 61 (Operand.tmp 13) (Operand.tmp 13), type := 61, pos := "search.go:21", after := #[{ on := 0, ground := Ground.data }, { on := 0, ground := Ground.data }], guard := none }) rfl (fun K hK => ?_) (AllReadyH.cons (o := { dst := some 18, op := Op.makeSlice 39 (Operand.tmp 17) (Operand.tmp 17), type := 39, pos := "search.go:21", after := #[{ on := 4, ground := Ground.data }, { on := 4, ground := Ground.data }], guard := none }) rfl (fun K hK => ?_) (AllReadyH.cons (o := { dst := some 6, op := Op.alloc 61, type := 0, pos := "search.go:21", after := #[], guard := none }) rfl (fun K hK => ?_) (AllReadyH.cons (o := { dst := some 7, op := Op.alloc 39, type := 0, pos := "search.go:21", after := #[], guard := none }) rfl (fun K hK => ?_) AllReadyH.nil))))
    · skip
      go_simp
      refine hK.out _ _ (HF.addB.c0) (fun _ => ?_)
      clear hK K
      exact n_1_3 _ (wr.heap.size) (xK) (HF.addB)
    · skip
      go_simp
      refine hK.out _ _ (HF.addD.c0) (fun _ => ?_)
      clear hK K
      exact n_3_5 _ (xK) (wr.heap.size) (HF.addD)
    · skip
      go_simp
      refine hK.out _ _ (HF.addPB.c0) (fun _ => ?_)
      clear hK K
      exact n_3_6 _ (xK) (wr.heap.size) (HF.addPB)
    · skip
      go_simp
      refine hK.out _ _ (HF.addPK.c0) (fun _ => ?_)
      clear hK K
      exact n_3_7 _ (xK) (wr.heap.size) (HF.addPK)
  have n_1 : ∀ (wr : World) (xB : Nat), L0 n o S0 W (some xB) none none none none wr → wpAnyH Try.prog .any seOps Q (fun w' => w'.cell? ⟨S0, 0, none⟩ = some (.int .i64 (n : Int))) 7 #[true, true, true, false, true, false, false, false, false, false, false] { tmps := #[r0, .pointer (some ⟨S0, 0, none⟩), r2, r3, undef, .pointer (some ⟨o, 0, none⟩), undef, undef, undef, undef, undef, undef, undef, .int .i64 (n : Int), .slice (some ⟨xB, 0, none⟩) n n, .int .i64 (n : Int), undef, .int .i64 (n : Int), undef, undef, undef, undef, undef, undef, undef, undef, undef, undef, undef, undef, undef, undef, undef, undef, undef, undef, undef, undef, undef, undef, undef, undef, undef, undef, undef, undef, undef, undef, undef, undef, undef, undef, undef], defers := [] } wr := by
    intro wr xB HF
    refine wpAnyH_ready (rs := [3, 5, 6, 7]) (by kernel_rfl) (by simp) ?_
    refine (AllReadyH.cons (o := { dst := some 16, op := Op.makeSlice 39 (Operand.tmp 15) (Operand.tmp 15), type := 39, pos := "search.go:21", after := #[{ on := 2, ground := Ground.data }, { on := 2, ground := Ground.data }], guard := none }) rfl (fun K hK => ?_) (AllReadyH.cons (o := { dst := some 18, op := Op.makeSlice 39 (Operand.tmp 17) (Operand.tmp 17), type := 39, pos := "search.go:21", after := #[{ on := 4, ground := Ground.data }, { on := 4, ground := Ground.data }], guard := none }) rfl (fun K hK => ?_) (AllReadyH.cons (o := { dst := some 6, op := Op.alloc 61, type := 0, pos := "search.go:21", after := #[], guard := none }) rfl (fun K hK => ?_) (AllReadyH.cons (o := { dst := some 7, op := Op.alloc 39, type := 0, pos := "search.go:21", after := #[], guard := none }) rfl (fun K hK => ?_) AllReadyH.nil))))
    · skip
      go_simp
      refine hK.out _ _ (HF.addK.c0) (fun _ => ?_)
      clear hK K
      exact n_1_3 _ (xB) (wr.heap.size) (HF.addK)
    · skip
      go_simp
      refine hK.out _ _ (HF.addD.c0) (fun _ => ?_)
      clear hK K
      exact n_1_5 _ (xB) (wr.heap.size) (HF.addD)
    · skip
      go_simp
      refine hK.out _ _ (HF.addPB.c0) (fun _ => ?_)
      clear hK K
      exact n_1_6 _ (xB) (wr.heap.size) (HF.addPB)
    · skip
      go_simp
      refine hK.out _ _ (HF.addPK.c0) (fun _ => ?_)
      clear hK K
      exact n_1_7 _ (xB) (wr.heap.size) (HF.addPK)
  have n_0 : ∀ (wr : World), L0 n o S0 W none none none none none wr → wpAnyH Try.prog .any seOps Q (fun w' => w'.cell? ⟨S0, 0, none⟩ = some (.int .i64 (n : Int))) 8 #[true, false, true, false, true, false, false, false, false, false, false] { tmps := #[r0, .pointer (some ⟨S0, 0, none⟩), r2, r3, undef, .pointer (some ⟨o, 0, none⟩), undef, undef, undef, undef, undef, undef, undef, .int .i64 (n : Int), undef, .int .i64 (n : Int), undef, .int .i64 (n : Int), undef, undef, undef, undef, undef, undef, undef, undef, undef, undef, undef, undef, undef, undef, undef, undef, undef, undef, undef, undef, undef, undef, undef, undef, undef, undef, undef, undef, undef, undef, undef, undef, undef, undef, undef], defers := [] } wr := by
    intro wr  HF
    refine wpAnyH_ready (rs := [1, 3, 5, 6, 7]) (by kernel_rfl) (by simp) ?_
    refine (AllReadyH.cons (o := { dst := some 14, op := Op.makeSlice 61 (Operand.tmp 13) (Operand.tmp 13), type := 61, pos := "search.go:21", after := #[{ on := 0, ground := Ground.data }, { on := 0, ground := Ground.data }], guard := none }) rfl (fun K hK => ?_) (AllReadyH.cons (o := { dst := some 16, op := Op.makeSlice 39 (Operand.tmp 15) (Operand.tmp 15), type := 39, pos := "search.go:21", after := #[{ on := 2, ground := Ground.data }, { on := 2, ground := Ground.data }], guard := none }) rfl (fun K hK => ?_) (AllReadyH.cons (o := { dst := some 18, op := Op.makeSlice 39 (Operand.tmp 17) (Operand.tmp 17), type := 39, pos := "search.go:21", after := #[{ on := 4, ground := Ground.data }, { on := 4, ground := Ground.data }], guard := none }) rfl (fun K hK => ?_) (AllReadyH.cons (o := { dst := some 6, op := Op.alloc 61, type := 0, pos := "search.go:21", after := #[], guard := none }) rfl (fun K hK => ?_) (AllReadyH.cons (o := { dst := some 7, op := Op.alloc 39, type := 0, pos := "search.go:21", after := #[], guard := none }) rfl (fun K hK => ?_) AllReadyH.nil)))))
    · skip
      go_simp
      refine hK.out _ _ (HF.addB.c0) (fun _ => ?_)
      clear hK K
      exact n_1 _ (wr.heap.size) (HF.addB)
    · skip
      go_simp
      refine hK.out _ _ (HF.addK.c0) (fun _ => ?_)
      clear hK K
      exact n_3 _ (wr.heap.size) (HF.addK)
    · skip
      go_simp
      refine hK.out _ _ (HF.addD.c0) (fun _ => ?_)
      clear hK K
      exact n_5 _ (wr.heap.size) (HF.addD)
    · skip
      go_simp
      refine hK.out _ _ (HF.addPB.c0) (fun _ => ?_)
      clear hK K
      exact n_6 _ (wr.heap.size) (HF.addPB)
    · skip
      go_simp
      refine hK.out _ _ (HF.addPK.c0) (fun _ => ?_)
      clear hK K
      exact n_7 _ (wr.heap.size) (HF.addPK)
  refine wp_region_held_drew (S := fun w' => w'.cell? ⟨S0, 0, none⟩ = some (.int .i64 (n : Int))) (by kernel_rfl) h1.c0 (fun hS => ?_)
  refine wpAnyH_take (i := 0) (oi := { dst := some 13, op := Op.load 3 (Operand.tmp 1), type := 3, pos := "search.go:21", after := #[], guard := none }) (v := .int .i64 (n : Int)) rfl (by kernel_rfl) (by kernel_rfl) (by kernel_rfl) (fun _ _ _ h => hPQ _ _ _ _ h) (Or.inl ⟨by rfl, ?_⟩) hS ?_
  · intro w' hSw; go_simp; try (with_reducible rfl)
  try simp only [Act.put, List.setIfInBounds_toArray, List.set_cons_zero, List.set_cons_succ]
  refine wpAnyH_take (i := 2) (oi := { dst := some 15, op := Op.load 3 (Operand.tmp 1), type := 3, pos := "search.go:21", after := #[], guard := none }) (v := .int .i64 (n : Int)) rfl (by kernel_rfl) (by kernel_rfl) (by kernel_rfl) (fun _ _ _ h => hPQ _ _ _ _ h) (Or.inl ⟨by rfl, ?_⟩) hS ?_
  · intro w' hSw; go_simp; try (with_reducible rfl)
  try simp only [Act.put, List.setIfInBounds_toArray, List.set_cons_zero, List.set_cons_succ]
  refine wpAnyH_take (i := 4) (oi := { dst := some 17, op := Op.load 3 (Operand.tmp 1), type := 3, pos := "search.go:21", after := #[], guard := none }) (v := .int .i64 (n : Int)) rfl (by kernel_rfl) (by kernel_rfl) (by kernel_rfl) (fun _ _ _ h => hPQ _ _ _ _ h) (Or.inl ⟨by rfl, ?_⟩) hS ?_
  · intro w' hSw; go_simp; try (with_reducible rfl)
  try simp only [Act.put, List.setIfInBounds_toArray, List.set_cons_zero, List.set_cons_succ]
  exact n_0 _ h1
end Go.Proofs.Ytokpdjdpeaccbaa
