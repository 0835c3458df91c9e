/-
  The walks of Next, of the program and of the reference, and of what tells lists of spots alike.
-/
import Derived.Test.YtlpmahdplilbiabDoorWalkSpots
namespace Go.Proofs.YtlpmahdplilbiabDoor
open Go.RowKit

/-- A list of spots and an error. -/
def NextOut (L : List (Int × Int × Int)) (e : Int) (w : World) (r : Ending) (w' : World) : Prop :=
  ∃ lst, r = .returned (.tuple #[lst, .int .i64 e]) ∧ w'.ownsRow w.heap.size 32 3 lst L.length (encS L) ∧ Below w.heap.size w w'
/-- What Next gives. -/
def NextIs (W H : Int) (n m : Nat) (Z : Nat → Int) (B : Nat → Bool) (t p s : Int) (L : List (Int × Int × Int)) (e : Int) : Prop :=
  (e ≠ 0 ∧ L = [] ∧ WErrs W H n m Z B 1 (fun _ => (t, p, s)) e) ∨ (e = 0 ∧ L = nxt W H Z t s ∧ Right W H n m Z B ∧ IsSpot n Z t p s)
theorem NextIs.ex (W H : Int) (n m : Nat) (Z : Nat → Int) (B : Nat → Bool) (t p s : Int) : ∃ L e, NextIs W H n m Z B t p s L e := by
  obtain ⟨e, he⟩ := WErrs.ex W H n m Z B 1 (fun _ => (t, p, s))
  by_cases h0 : e = 0
  · subst h0
    rcases he with ⟨h, _⟩ | ⟨hR, ⟨_, h⟩ | ⟨h, _⟩⟩
    · cases h
    · exact ⟨_, 0, .inr ⟨rfl, rfl, hR, h 0 (by omega)⟩⟩
    · exact absurd rfl h
  · exact ⟨_, e, .inl ⟨h0, rfl, he⟩⟩
theorem NextIs.len {W H : Int} {n m : Nat} {Z : Nat → Int} {B : Nat → Bool} {t p s : Int} {L : List (Int × Int × Int)} {e : Int} (h : NextIs W H n m Z B t p s L e) : L.length ≤ 6 := by
  rcases h with ⟨_, rfl, _⟩ | ⟨_, rfl, _⟩
  · simp
  · exact nxt_len _ _ _ _ _
theorem one_err {W H : Int} {n m : Nat} {Z : Nat → Int} {B : Nat → Bool} {t p s e : Int} (h : WErrs W H n m Z B 1 (fun _ => (t, p, s)) e) (h0 : e ≠ 0) : (e = 1 ∧ ¬ Right W H n m Z B) ∨ (Right W H n m Z B ∧ SErr n Z t p s e) := by
  rcases h with h | ⟨hR, ⟨h, _⟩ | ⟨_, i, _, h, _⟩⟩
  · exact .inl h
  · exact absurd h h0
  · exact .inr ⟨hR, h⟩
theorem one_ok {W H : Int} {n m : Nat} {Z : Nat → Int} {B : Nat → Bool} {t p s : Int} (hR : Right W H n m Z B) (h : IsSpot n Z t p s) : WErrs W H n m Z B 1 (fun _ => (t, p, s)) 0 :=
  .inr ⟨hR, .inl ⟨rfl, fun _ _ => h⟩⟩

/-- The two boxes of Next, behind whatever calls. -/
structure NB (A : Nat) (W H : Int) (ao : Option Addr) (n cap : Nat) (Z : Nat → Int) (bo : Option Addr) (m bcap : Nat) (B : Nat → Bool) (t p s : Int) (w wr : World) : Prop where
  bx : Bx2 A 25 32 #[.int .i64 W, .int .i64 H, .slice ao n cap, .slice bo m bcap] #[.int .i64 t, .int .i64 p, .int .i64 s] w wr
  ints : Ints wr ao n Z
  bools : Bools wr bo m B
  tab : Tab wr
section
variable {A : Nat} {W H : Int} {ao bo : Option Addr} {n cap m bcap : Nat} {Z : Nat → Int} {B : Nat → Bool} {t p s : Int} {w wr w' : World}
theorem NB.stays (h : NB A W H ao n cap Z bo m bcap B t p s w wr) (k : Below wr.heap.size wr w') : NB A W H ao n cap Z bo m bcap B t p s w w' := ⟨h.bx.stays k, h.ints.stays k, h.bools.stays k, h.tab.stays k⟩
theorem nb_start (hT : Tab w) (hI : Ints w ao n Z) (hB : Bools w bo m B) :
    NB w.heap.size W H ao n cap Z bo m bcap B t p s w ((w.alloc (.cells #[.int .i64 W, .int .i64 H, .slice ao n cap, .slice bo m bcap] 25)).alloc (.cells #[.int .i64 t, .int .i64 p, .int .i64 s] 32)) :=
  have h := bx2_start w 25 32 #[.int .i64 W, .int .i64 H, .slice ao n cap, .slice bo m bcap] #[.int .i64 t, .int .i64 p, .int .i64 s]
  ⟨h, hI.stays h.below, hB.stays h.below, hT.stays h.below⟩
theorem NB.cells (h : NB A W H ao n cap Z bo m bcap B t p s w wr) : (wr.cell? ⟨A, 0, none⟩ = some (.int .i64 W) ∧ wr.cell? ⟨A, 1, none⟩ = some (.int .i64 H) ∧ wr.cell? ⟨A, 2, none⟩ = some (.slice ao n cap) ∧ wr.cell? ⟨A, 3, none⟩ = some (.slice bo m bcap)) ∧
    wr.cell? ⟨A + 1, 0, none⟩ = some (.int .i64 t) ∧ wr.cell? ⟨A + 1, 1, none⟩ = some (.int .i64 p) ∧ wr.cell? ⟨A + 1, 2, none⟩ = some (.int .i64 s) :=
  ⟨⟨cell_of_row wr A 0 _ _ _ h.bx.hb, cell_of_row wr A 1 _ _ _ h.bx.hb, cell_of_row wr A 2 _ _ _ h.bx.hb, cell_of_row wr A 3 _ _ _ h.bx.hb⟩, cell_of_row wr (A + 1) 0 _ _ _ h.bx.hr, cell_of_row wr (A + 1) 1 _ _ _ h.bx.hr, cell_of_row wr (A + 1) 2 _ _ _ h.bx.hr⟩
end

theorem spots_one (w : World) (t p s : Int) : SpotsAt (w.alloc (.cells #[.int .i64 t, .int .i64 p, .int .i64 s] 32)) (some ⟨w.heap.size, 0, none⟩) 1 (fun _ => (t, p, s)) := fun j hj => by
  obtain rfl : j = 0 := by omega
  exact ⟨w.heap.size, 0, rfl, by simp, World.cell?_alloc_at _ _ _ _ rfl, World.cell?_alloc_at _ _ _ _ rfl, World.cell?_alloc_at _ _ _ _ rfl⟩
end Go.Proofs.YtlpmahdplilbiabDoor
