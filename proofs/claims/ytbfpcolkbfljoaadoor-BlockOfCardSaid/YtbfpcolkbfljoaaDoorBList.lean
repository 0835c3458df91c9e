/-
  Lists of numbers of a call's own; the box of a chart; what lies beside a list that grows.
-/
import Derived.Test.YtbfpcolkbfljoaaDoorBFcg
namespace Go.Proofs.YtbfpcolkbfljoaaDoor
open Go.RowKit

/-- Numbers as cells. -/
def encN (L : List Nat) : List Value := L.map fun x : Nat => Value.int .i64 (x : Int)
theorem encN_length (L : List Nat) : (encN L).length = L.length := by simp [encN]
theorem encN_snoc (L : List Nat) (x : Nat) : encN (L ++ [x]) = encN L ++ [.int .i64 (x : Int)] := by simp [encN]
theorem encN_get (L : List Nat) {j : Nat} (h : j < L.length) : (encN L)[j]? = some (.int .i64 ((L.getD j 0 : Nat) : Int)) := by
  simp [encN, List.getElem?_eq_getElem h]
theorem slice_of_row {w : World} {B : Nat} {e : TypeId} {size n : Nat} {v : Value} {xs : List Value} (h : w.ownsRow B e size v n xs) : ∃ ao cap, v = .slice ao n cap := by
  rcases h.2 with ⟨rfl, rfl⟩ | ⟨g, cap, _, rfl, _⟩
  · exact ⟨none, 0, rfl⟩
  · exact ⟨_, _, rfl⟩
theorem ints_of_row {w : World} {B : Nat} {ao : Option Addr} {n cap : Nat} {L : List Nat} (h : w.ownsRow B 3 1 (.slice ao n cap) n (encN L)) (hn : n = L.length) : Ints w ao n (fun j => ((L.getD j 0 : Nat) : Int)) := fun j hj => by
  obtain ⟨g, c, e, _, _⟩ := h.form (by omega)
  cases e
  exact ⟨g, 0, rfl, (h.lt g rfl).2, by rw [Nat.zero_add, h.cellAt j (by omega), encN_get _ (by omega)]⟩
theorem infoX : ∃ i, Tryd.prog.info? 3 = some i ∧ i.zero = some (.int .i64 0) ∧ i.size = 1 ∧ i.bytes = 8 := by
  have h := info3
  revert h
  cases Tryd.prog.info? 3 with
  | none => intro h; cases h
  | some i => intro h; simp at h; exact ⟨i, rfl, h.1, h.2.1, h.2.2⟩
/-- A list of numbers, in memory of the call's own. -/
def NL (L : List Nat) (w : World) (r : Ending) (w' : World) : Prop :=
  ∃ ao cap, r = .returned (.slice ao L.length cap) ∧ w'.ownsRow w.heap.size 3 1 (.slice ao L.length cap) L.length (encN L) ∧ Below w.heap.size w w'
theorem encS_at (L : List (Int × Int × Int)) : ∀ j, j < L.length → (encS L)[j * 3]? = some (.int .i64 (L.getD j (0, 0, 0)).1) ∧ (encS L)[j * 3 + 1]? = some (.int .i64 (L.getD j (0, 0, 0)).2.1) ∧ (encS L)[j * 3 + 2]? = some (.int .i64 (L.getD j (0, 0, 0)).2.2) := by
  induction L with
  | nil => intro j hj; simp at hj
  | cons a L ih =>
    intro j hj
    cases j with
    | zero => exact ⟨rfl, rfl, rfl⟩
    | succ j =>
      have h := ih j (by simpa using hj)
      rw [show (j + 1) * 3 = j * 3 + 3 by omega]
      exact h
theorem drop_cons {α : Type} {R : List α} {k : Nat} (z : α) (h : k < R.length) : R.drop k = R.getD k z :: R.drop (k + 1) := by
  rw [List.drop_eq_getElem_cons h, List.getD_eq_getElem?_getD, List.getElem?_eq_getElem h]; rfl
theorem take_snoc {α : Type} {R : List α} {k : Nat} (z : α) (h : k < R.length) : R.take (k + 1) = R.take k ++ [R.getD k z] := by
  rw [List.take_add_one, List.getElem?_eq_getElem h, List.getD_eq_getElem?_getD, List.getElem?_eq_getElem h]; rfl

/-- The box of a chart. -/
structure CB (d : Rl) (fv mp : Value) (A : Nat) (wr : World) : Prop where
  size : A < wr.heap.size
  c0 : wr.cell? ⟨A, 0, none⟩ = some (.int .i64 d.W)
  c1 : wr.cell? ⟨A, 1, none⟩ = some (.int .i64 d.H)
  c2 : wr.cell? ⟨A, 2, none⟩ = some d.as
  c3 : wr.cell? ⟨A, 3, none⟩ = some d.bs
  c4 : wr.cell? ⟨A, 4, none⟩ = some fv
  c5 : wr.cell? ⟨A, 5, none⟩ = some mp
  has : Has d wr
section
variable {d : Rl} {fv mp : Value} {A : Nat} {w wr w' : World}
theorem CB.start (h : Has d w) : CB d fv mp w.heap.size (w.alloc (.cells #[.int .i64 d.W, .int .i64 d.H, d.as, d.bs, fv, mp] 101)) :=
  ⟨by simp, by simp, by simp, by simp, by simp, by simp, by simp, h.stays (Joins.below_alloc1 _ _)⟩
theorem CB.lift {Bd : Nat} (h : CB d fv mp A wr) (k : Below Bd wr w') (hA : A < Bd) (hh : Has d w') : CB d fv mp A w' :=
  have e : ∀ i, w'.cell? ⟨A, i, none⟩ = wr.cell? ⟨A, i, none⟩ := fun i => k.cell (p := ⟨A, i, none⟩) hA
  ⟨Nat.lt_of_lt_of_le h.size k.size, (e 0).trans h.c0, (e 1).trans h.c1, (e 2).trans h.c2, (e 3).trans h.c3, (e 4).trans h.c4, (e 5).trans h.c5, hh⟩
theorem CB.stays (h : CB d fv mp A wr) (k : Below wr.heap.size wr w') : CB d fv mp A w' := h.lift k h.size (h.has.stays k)
end

/-- The memory of a function of a chart that makes a list of numbers. -/
structure BS (d : Rl) (fv mp : Value) (L : List Nat) (lst : Value) (w wr : World) : Prop where
  below : Below w.heap.size w wr
  cb : CB d fv mp w.heap.size wr
  row : wr.ownsRow (w.heap.size + 1) 3 1 lst L.length (encN L)
section
variable {d : Rl} {fv mp lst lst' : Value} {L : List Nat} {w wr w' : World}
theorem BS.start (h : Has d w) : BS d fv mp [] (.slice none 0 0) w (w.alloc (.cells #[.int .i64 d.W, .int .i64 d.H, d.as, d.bs, fv, mp] 101)) :=
  ⟨Joins.below_alloc1 _ _, CB.start h, by simpa [encN] using World.ownsRow_nil _ _ _ _⟩
theorem BS.stays (h : BS d fv mp L lst w wr) (k : Below wr.heap.size wr w') : BS d fv mp L lst w w' := ⟨step h.below k, h.cb.stays k, row_stays h.row k⟩
theorem BS.app {x : Nat} (h : BS d fv mp L lst w wr) (hH : Has d w) (hr : w'.ownsRow (w.heap.size + 1) 3 1 lst' (L.length + 1) (encN L ++ [.int .i64 (x : Int)])) (o : Obj) (hg : (wr.alloc o).grownBy w' lst.ownBlock) : BS d fv mp (L ++ [x]) lst' w w' := by
  have hz := h.cb.size
  have ho : ∀ k, lst.ownBlock = some k → w.heap.size + 1 ≤ k := fun k hk => (h.row.lt k hk).1
  have hb : Below (w.heap.size + 1) wr w' := ((Below.refl _ wr).alloc (by omega) o).grown hg (by simp; omega) ho
  have hw : Below w.heap.size w w' := h.below.trans (hb.mono (by omega))
  refine ⟨hw, h.cb.lift hb (Nat.lt_succ_self _) (hH.stays hw), ?_⟩
  rw [List.length_append, encN_snoc]
  exact hr
end

/-- A block that lies beside a list that grows. -/
structure LitB (cs : Array Value) (t : TypeId) (G : Nat) (lst : Value) (wr : World) : Prop where
  blk : wr.heap[G]? = some (.cells cs t (0, 0))
  ne : lst.ownBlock ≠ some G
theorem LitB.lt {cs : Array Value} {t : TypeId} {G : Nat} {lst : Value} {wr : World} (h : LitB cs t G lst wr) : G < wr.heap.size := heap_lt h.blk
theorem LitB.stays {cs : Array Value} {t : TypeId} {G : Nat} {lst : Value} {wr w' : World} (h : LitB cs t G lst wr) (k : Below wr.heap.size wr w') : LitB cs t G lst w' := ⟨(k.block G h.lt).trans h.blk, h.ne⟩
theorem grown_far {w w' : World} {o : Obj} {lst : Value} {b : Nat} (hg : (w.alloc o).grownBy w' lst.ownBlock) (hb : b < w.heap.size) (hn : lst.ownBlock ≠ some b) : w'.heap[b]? = w.heap[b]? :=
  (hg.block b (by simp; omega) (Ne.symm hn)).trans (Below.heap_alloc _ _ _ hb)
theorem far_new {lst : Value} {b g n c H : Nat} {z : Nat} (hn : lst.ownBlock ≠ some b) (hb : b < z) (hl : lst.ownBlock = some g ∨ g = H) (hH : z ≤ H) : (Value.slice (some ⟨g, 0, none⟩) n c).ownBlock ≠ some b := by
  intro e
  simp [Value.ownBlock] at e
  subst e
  rcases hl with h | h
  · exact hn h
  · omega
theorem LitB.app {cs : Array Value} {t : TypeId} {G g n c : Nat} {lst : Value} {wr w' : World} (h : LitB cs t G lst wr) (o : Obj) (hg : (wr.alloc o).grownBy w' lst.ownBlock) (hl : lst.ownBlock = some g ∨ g = wr.heap.size + 1) : LitB cs t G (.slice (some ⟨g, 0, none⟩) n c) w' :=
  ⟨(grown_far hg h.lt h.ne).trans h.blk, far_new h.ne h.lt hl (Nat.le_succ _)⟩
theorem LitB.new {B : Nat} {e : TypeId} {size n : Nat} {lst : Value} {xs : List Value} {cs : Array Value} {t : TypeId} {wr : World} (h : wr.ownsRow B e size lst n xs) : LitB cs t wr.heap.size lst (wr.alloc (.cells cs t)) := by
  refine ⟨?_, fun e => ?_⟩
  · show (wr.heap.push _)[_]? = _
    rw [Array.getElem?_push, if_pos rfl]
  · have := (h.lt _ e).2
    omega

/-- A list of spots that lies beside a list that grows. -/
def Sps (R : List (Int × Int × Int)) (ra : Option Addr) (lst : Value) (w : World) : Prop :=
  ∀ j : Nat, j < R.length → ∃ b : Nat, ra = some ⟨b, 0, none⟩ ∧ b < w.heap.size ∧ lst.ownBlock ≠ some b ∧ w.cell? ⟨b, j * 3, none⟩ = some (.int .i64 (R.getD j (0, 0, 0)).1) ∧ w.cell? ⟨b, j * 3 + 1, none⟩ = some (.int .i64 (R.getD j (0, 0, 0)).2.1) ∧ w.cell? ⟨b, j * 3 + 2, none⟩ = some (.int .i64 (R.getD j (0, 0, 0)).2.2)
theorem Sps.same {R : List (Int × Int × Int)} {ra : Option Addr} {lst lst' : Value} {w w' : World} (h : Sps R ra lst w) (k : ∀ b, b < w.heap.size → lst.ownBlock ≠ some b → w'.heap[b]? = w.heap[b]? ∧ lst'.ownBlock ≠ some b) (hz : w.heap.size ≤ w'.heap.size) : Sps R ra lst' w' := fun j hj => by
  obtain ⟨b, e, hb, hn, c0, c1, c2⟩ := h j hj
  obtain ⟨q, q'⟩ := k b hb hn
  exact ⟨b, e, by omega, q', (World.cell?_of_block (a := ⟨b, _, none⟩) q).trans c0, (World.cell?_of_block (a := ⟨b, _, none⟩) q).trans c1, (World.cell?_of_block (a := ⟨b, _, none⟩) q).trans c2⟩
theorem Sps.stays {R : List (Int × Int × Int)} {ra : Option Addr} {lst : Value} {w w' : World} (h : Sps R ra lst w) (k : Below w.heap.size w w') : Sps R ra lst w' := h.same (fun b hb hn => ⟨k.block b hb, hn⟩) k.size
theorem Sps.app {R : List (Int × Int × Int)} {ra : Option Addr} {lst : Value} {g n c : Nat} {w w' : World} (h : Sps R ra lst w) (o : Obj) (hg : (w.alloc o).grownBy w' lst.ownBlock) (hl : lst.ownBlock = some g ∨ g = w.heap.size + 1) : Sps R ra (.slice (some ⟨g, 0, none⟩) n c) w' :=
  h.same (fun _ hb hn => ⟨grown_far hg hb hn, far_new hn hb hl (Nat.le_succ _)⟩) (by have := hg.size; simp at this; omega)
theorem Sps.start {R : List (Int × Int × Int)} {ra : Option Addr} {cap B : Nat} {lst : Value} {w w' : World} {B' : Nat} {e : TypeId} {size n : Nat} {xs : List Value} (h : w'.ownsRow B 50 3 (.slice ra R.length cap) R.length (encS R)) (hl : w.ownsRow B' e size lst n xs) (hB : w.heap.size ≤ B) : Sps R ra lst w' := fun j hj => by
  obtain ⟨g, c, e, h1, h2⟩ := h.form (by omega)
  cases e
  have e3 := encS_at R j hj
  refine ⟨g, rfl, h2, fun e => ?_, (h.cellAt (j * 3) (by omega)).trans e3.1, (h.cellAt (j * 3 + 1) (by omega)).trans e3.2.1, (h.cellAt (j * 3 + 2) (by omega)).trans e3.2.2⟩
  have := (hl.lt _ e).2
  omega
end Go.Proofs.YtbfpcolkbfljoaaDoor
