/-
  The walk of facing of the program's blocks: the spots beyond a side of a tile.
-/
import Derived.Test.YtbfpcolkbfljoaaDoorBFac
namespace Go.Proofs.YtbfpcolkbfljoaaDoor
open Go.RowKit

/-- Whether a piece lies on a tile and has an end at a side. -/
def brs (n : Nat) (Z : Nat → Int) (t p s : Int) : Bool := decide (0 ≤ oth p s) && Lie n Z t p
theorem brs_iff (n : Nat) (Z : Nat → Int) (t p s : Int) : brs n Z t p s = true ↔ IsSpot n Z t p s := by
  unfold brs IsSpot; simp
/-- The pieces of a tile that have an end at a side, of the first k. -/
def fac (n : Nat) (Z : Nat → Int) (b d : Int) (k : Nat) : List (Int × Int × Int) := ((List.range k).filter fun q : Nat => brs n Z b q d).map fun q : Nat => (b, (q : Int), d)
theorem fac_yes {n : Nat} {Z : Nat → Int} {b d : Int} {k : Nat} (h : brs n Z b k d = true) : fac n Z b d (k + 1) = fac n Z b d k ++ [(b, (k : Int), d)] := by
  unfold fac; rw [List.range_succ, List.filter_append]; simp [h]
theorem fac_no {n : Nat} {Z : Nat → Int} {b d : Int} {k : Nat} (h : brs n Z b k d = false) : fac n Z b d (k + 1) = fac n Z b d k := by
  unfold fac; rw [List.range_succ, List.filter_append]; simp [h]
theorem fac_len (n : Nat) (Z : Nat → Int) (b d : Int) (k : Nat) : (fac n Z b d k).length ≤ k := by
  unfold fac; rw [List.length_map]
  exact Nat.le_trans (List.length_filter_le _ _) (by simp)
/-- The spots beyond a side of a tile. -/
def fcg (d : Rl) (t s : Int) : List (Int × Int × Int) := fac d.n d.Z (bey d.W d.H t s) ((s + 2) % 4) 6

/-- The memory of facing. -/
structure FcS (d : Rl) (L : List (Int × Int × Int)) (lst : Value) (w wr : World) : Prop where
  below : Below w.heap.size w wr
  size : w.heap.size < wr.heap.size
  c0 : wr.cell? ⟨w.heap.size, 0, none⟩ = some (.int .i64 d.W)
  c1 : wr.cell? ⟨w.heap.size, 1, none⟩ = some (.int .i64 d.H)
  c2 : wr.cell? ⟨w.heap.size, 2, none⟩ = some d.as
  c3 : wr.cell? ⟨w.heap.size, 3, none⟩ = some d.bs
  has : Has d wr
  row : wr.ownsRow (w.heap.size + 1) 50 3 lst L.length (encS L)
theorem FcS.start {d : Rl} {w : World} (h : Has d w) : FcS d [] (.slice none 0 0) w (w.alloc (.cells #[.int .i64 d.W, .int .i64 d.H, d.as, d.bs] 25)) :=
  ⟨Joins.below_alloc1 _ _, by simp, by simp, by simp, by simp, by simp, h.stays (Joins.below_alloc1 _ _), World.ownsRow_nil _ _ _ _⟩
theorem FcS.stays {d : Rl} {L : List (Int × Int × Int)} {lst : Value} {w wr w' : World} (h : FcS d L lst w wr) (k : Below wr.heap.size wr w') : FcS d L lst w w' :=
  have e : ∀ i, w'.cell? ⟨w.heap.size, i, none⟩ = wr.cell? ⟨w.heap.size, i, none⟩ := fun i => k.cell (p := ⟨w.heap.size, i, none⟩) h.size
  ⟨step h.below k, Nat.lt_of_lt_of_le h.size k.size, (e 0).trans h.c0, (e 1).trans h.c1, (e 2).trans h.c2, (e 3).trans h.c3, h.has.stays k, row_stays h.row k⟩
theorem FcS.app {d : Rl} {L : List (Int × Int × Int)} {lst lst' : Value} {w wr w' : World} {x : Int × Int × Int} (h : FcS d L lst w wr) (hH : Has d w)
    (hr : w'.ownsRow (w.heap.size + 1) 50 3 lst' (L.length + 1) (encS L ++ sc x)) (o : Obj) (hg : (wr.alloc o).grownBy w' lst.ownBlock) : FcS d (L ++ [x]) lst' w w' := by
  have hz := h.size
  have ho : ∀ k, lst.ownBlock = some k → w.heap.size + 1 ≤ k := fun k hk => (h.row.lt k hk).1
  have hb : Below (w.heap.size + 1) wr w' := ((Below.refl _ wr).alloc (by omega) o).grown hg (by simp; omega) ho
  have hw : Below w.heap.size w w' := h.below.trans (hb.mono (by omega))
  have e : ∀ i, w'.cell? ⟨w.heap.size, i, none⟩ = wr.cell? ⟨w.heap.size, i, none⟩ := fun i => hb.cell (p := ⟨w.heap.size, i, none⟩) (Nat.lt_succ_self _)
  refine ⟨hw, Nat.lt_of_lt_of_le h.size hb.size, (e 0).trans h.c0, (e 1).trans h.c1, (e 2).trans h.c2, (e 3).trans h.c3, hH.stays hw, ?_⟩
  rw [List.length_append, encS_snoc]
  exact hr

set_option maxRecDepth 20000 in
set_option maxHeartbeats 6400000 in
theorem facing_any (d : Rl) (hg : Gd d) (t s : Int) (h0 : 0 ≤ t) (h1 : t < d.n) (hs0 : 0 ≤ s) (hs3 : s ≤ 3) (w : World) (hH : Has d w) :
    Calls Tryd.prog 110 #[d.rv, .int .i64 t, .int .i64 s] w (Spots (fcg d t s) w) := by
  obtain ⟨i0, hi, hz0, hz1, hz2⟩ := info_parts info31
  have HIN := hid (And.intro hi (And.intro hz0 (And.intro hz1 hz2)))
  clear hi hz0 hz1 hz2
  obtain ⟨b, hb⟩ : ∃ b, bey d.W d.H t s = b := ⟨_, rfl⟩
  obtain ⟨e, he⟩ : ∃ e, (s + 2) % 4 = e := ⟨_, rfl⟩
  have HBY := hid (fun w => bbeyond_any d.W d.H t s b d.as d.bs hg.sized h0 (by rw [← hg.right.sets]; exact h1) hs0 hs3 hb w)
  have HBR := hid (fun (q : Nat) r (hr : r = brs d.n d.Z b q e) w hT hI => bears_any d.W d.H d.ao d.n d.cap d.Z d.bs hg.fine b q e r (by rw [hr, brs_iff]) w hT hI)
  have HV := hid (FcS.start hH)
  have HL : Hid (fcg d t s = fac d.n d.Z b e 6) := hid (by unfold fcg; rw [hb, he])
  have HHH := hid hH
  clear hg hb hH
  go_enter Tryd.func110, Tryd.ntmps110
  go_upto_region 1 with fail
  generalize World.alloc w _ = wm at HV ⊢
  have c0 := HV.out.c0; have c1 := HV.out.c1; have c2 := HV.out.c2; have c3 := HV.out.c3; have hz := HV.out.size
  go_wp2_with (go_at_call 126; refine (HBY.out _).mono ?_; rintro r w1 ⟨rfl, hb⟩; have HV2 := hid (HV.out.stays hb); clear hb c0 c1 c2 c3 hz)
  go_loopg [7, 14] 6 (fun gk lst iv wr => ∃ k : Nat, gk + k = 6 ∧ iv = .int .i64 k ∧ Hid (FcS d (fac d.n d.Z b e k) lst w wr))
  case atStart => exact ⟨0, rfl, rfl, HV2⟩
  case round =>
    clear HV HV2
    obtain ⟨k, hk, rfl, HV⟩ := hrel
    have hk6 : k ≤ 6 := by omega
    have HK := hid hk
    clear hk
    by_cases hlt : k < 6
    · have HV1 := hid (HV.out.stays (Joins.below_alloc1 wr (.cells #[.int .i64 b, .int .i64 k, .int .i64 e] 50)))
      have c0 := HV.out.c0; have c1 := HV.out.c1; have c2 := HV.out.c2; have c3 := HV.out.c3; have hz := HV.out.size
      obtain ⟨r, hr⟩ : ∃ r, r = brs d.n d.Z b k e := ⟨_, rfl⟩
      have HC := hid (HBR.out k r hr)
      have HR := hid hr
      have hlen := fac_len d.n d.Z b e k
      clear hr
      cases r
      · go_wp2_with (go_at_call 56; refine (HC.out _ HV1.out.has.tab HV1.out.has.ints).mono ?_; rintro r w3 ⟨rfl, hb3⟩; have HV3 := hid (HV1.out.stays hb3); clear hb3)
        go_roundg (gk - 1)
        case measure => have := HK.out; omega
        case rel => exact ⟨k + 1, by have := HK.out; omega, by go_num, hid (by rw [fac_no HR.out.symm]; exact HV3.out)⟩
      · have hz1 := HV1.out.size
        go_wp2_with (first
          | (go_at_call 56; refine (HC.out _ HV1.out.has.tab HV1.out.has.ints).mono ?_; rintro r w3 ⟨rfl, hb3⟩; have HV3 := hid (HV1.out.stays hb3); have q0 := (hb3.cell (p := ⟨wr.heap.size, 0, none⟩) (by simp)).trans (show _ = some (.int .i64 b) by simp); have q1 := (hb3.cell (p := ⟨wr.heap.size, 1, none⟩) (by simp)).trans (show _ = some (.int .i64 (k : Int)) by simp); have q2 := (hb3.cell (p := ⟨wr.heap.size, 2, none⟩) (by simp)).trans (show _ = some (.int .i64 e) by simp); have hz3 := HV3.out.size; clear hb3 c0 c1 c2 c3)
          | (at_builtin; refine wpList_append_own _ rfl _ _ 105 rfl (w.heap.size + 1) 50 i0 (.agg #[.int .i64 0, .int .i64 0, .int .i64 0]) 3 24 Tryd.underlying105 HIN.out.1 HIN.out.2.1 HIN.out.2.2.1 HIN.out.2.2.2 rfl (by decide) _ _ _ rfl (HV3.out.row.alloc _) ⟨w3.heap.size, 0, none⟩ 1 1 [.int .i64 b, .int .i64 k, .int .i64 e] rfl rfl ?c1 ?c2 ?c3 ?c4 ?c5 ?_))
        case c1 =>
          intro j u hj
          match j, hj with
          | 0, hj => simp at hj; subst hj; simp [Addr.add]
          | 1, hj => simp at hj; subst hj; simp [Addr.add]
          | 2, hj => simp at hj; subst hj; simp [Addr.add]
        case c2 => intro u hu; simp at hu; rcases hu with rfl | rfl | rfl <;> rfl
        case c3 => unfold maxLen; omega
        case c4 => omega
        case c5 => simp; omega
        intro v' w5 hown' hgrow _
        have HV5 := hid (HV3.out.app (x := (b, (k : Int), e)) HHH.out hown' _ hgrow)
        clear hown' hgrow
        go_wp2_with fail
        go_roundg (gk - 1)
        case measure => have := HK.out; omega
        case rel => exact ⟨k + 1, by have := HK.out; omega, by go_num, hid (by rw [fac_yes HR.out.symm]; exact HV5.out)⟩
    · obtain rfl : k = 6 := by omega
      go_wp2_with fail
      go_ret
      refine ⟨_, rfl, ?_, HV.out.below⟩
      rw [HL.out]
      exact row_mono HV.out.row (by omega)
end Go.Proofs.YtbfpcolkbfljoaaDoor
