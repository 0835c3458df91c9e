/-
  The walk of shift, the site's method: a corner moves by a step, with those that must follow.
-/
import Derived.Test.YtngamphkehppfaaWalkOpen
namespace Go.Proofs.Ytngamphkehppfaa
open Go.RowKit

/-- A site as a value. -/
abbrev sv4 (W H : Int) (c f : Value) : Value := .agg #[.int .i64 W, .int .i64 H, c, f]
theorem grown_trans {a b c : World} {g : Nat} (h : a.grownBy b (some g)) (k : b.grownBy c (some g)) : a.grownBy c (some g) :=
  ⟨k.os.trans h.os, k.tape.trans h.tape, k.output.trans h.output, Nat.le_trans h.size k.size, fun i hi hn => (k.block i (Nat.lt_of_lt_of_le hi h.size) hn).trans (h.block i hi hn)⟩
theorem grown_below {a b : World} {g : Nat} (h : Below a.heap.size a b) : a.grownBy b (some g) := ⟨h.os, h.tape, h.output, h.size, fun i hi _ => h.block i hi⟩
theorem row_grown {w w' : World} {B g : Nat} {e : TypeId} {size n : Nat} {v : Value} {xs : List Value} (h : w.ownsRow B e size v n xs) (hg : w.grownBy w' (some g)) (hv : v.ownBlock ≠ some g) : w'.ownsRow B e size v n xs :=
  h.kept hg (.inr hv)

theorem encC_get {W : Nat} {Y : Nat → Int} {L : List Nat} {k : Nat} (h : k < L.length) :
    (encC W Y L)[k * 3]? = some (.int .i64 ((L.getD k 0 % (W + 1) : Nat) : Int)) ∧ (encC W Y L)[k * 3 + 1]? = some (.int .i64 ((L.getD k 0 / (W + 1) : Nat) : Int)) ∧ (encC W Y L)[k * 3 + 2]? = some (.int .i64 (Y (L.getD k 0))) := by
  induction L generalizing k with
  | nil => simp at h
  | cons a L ih =>
    have e : encC W Y (a :: L) = cc W Y a ++ encC W Y L := by simp [encC]
    have hl : (cc W Y a).length = 3 := rfl
    rw [e]
    cases k with
    | zero => exact ⟨rfl, rfl, rfl⟩
    | succ k =>
      have := ih (k := k) (by simpa using h)
      rw [List.getElem?_append_right (by omega), List.getElem?_append_right (by omega), List.getElem?_append_right (by omega), hl]
      rw [show (k + 1) * 3 - 3 = k * 3 by omega, show (k + 1) * 3 + 1 - 3 = k * 3 + 1 by omega, show (k + 1) * 3 + 2 - 3 = k * 3 + 2 by omega]
      simpa using this

/-- The heights behind the writing of the first k changed corners. -/
def mid (L : List Nat) (Y X : Nat → Int) (k i : Nat) : Int := if i ∈ L.take k then X i else Y i
theorem mid_succ {L : List Nat} {Y X : Nat → Int} {k : Nat} (h : k < L.length) (i : Nat) : mid L Y X (k + 1) i = if i = L.getD k 0 then X i else mid L Y X k i := by
  unfold mid
  have e : L.getD k 0 = L[k] := by simp [h]
  rw [e]
  have hm : i ∈ L.take (k + 1) ↔ i ∈ L.take k ∨ i = L[k] := by rw [List.take_succ_eq_append_getElem h, List.mem_append, List.mem_singleton]
  by_cases hi : i = L[k]
  · rw [if_pos (hm.2 (.inr hi)), if_pos hi]
  · rw [if_neg hi]
    by_cases h2 : i ∈ L.take k
    · rw [if_pos (hm.2 (.inl h2)), if_pos h2]
    · rw [if_neg (fun k => (hm.1 k).elim h2 hi), if_neg h2]

set_option maxHeartbeats 800000 in
theorem site_edge (W H : Nat) (n cap1 : Nat) (Y : Nat → Int) (hg : Good W H n Y) (g1 : Nat) (f : Value) (x y : Nat) (hx : x ≤ W) (hy : y ≤ H) (s : Int) (hs : s = 1 ∨ s = -1) (w : World) {B : Nat}
    (hrow : w.ownsRow B 3 1 (.slice (some ⟨g1, 0, none⟩) n cap1) n (ints n Y)) (hz : ¬ (0 ≤ Y (y * (W + 1) + x) + s ∧ Y (y * (W + 1) + x) + s ≤ 15)) :
    Calls Try.prog 64 #[sv4 W H (.slice (some ⟨g1, 0, none⟩) n cap1) f, .int .i64 x, .int .i64 y, .int .i64 s] w fun r w' => r = .returned (.tuple #[.slice none 0 0, .int .i64 6]) ∧ Below w.heap.size w w' := by
  obtain ⟨hW1, hW2, hH1, hH2⟩ := hg.side
  have hlb := hg.shaped.bound
  obtain ⟨a, ha⟩ : ∃ a, a = y * (W + 1) := ⟨_, rfl⟩
  have e1 : (y : Int) * ((W : Int) + 1) = (a : Int) := by rw [ha]; simp
  have hlt : a + x < n := by rw [ha]; exact hg.at_lt (by omega) (by omega)
  have c0 := (hrow.cellAt (a + x) (by omega)).trans (ints_get Y hlt)
  have hi := hg.high (a + x) hlt
  rw [← ha] at hz
  obtain ⟨z, hz'⟩ : ∃ z, z = Y (a + x) := ⟨_, rfl⟩
  rw [← hz'] at c0 hi hz
  obtain ⟨hi1, hi2⟩ := hi
  have hgz := (hrow.lt g1 rfl).2
  have HZ := hid hz
  have hs2 : -1 ≤ s := by omega
  have hs3 : s ≤ 1 := by omega
  clear hrow ha hz' hg hs hz
  go_enter Try.func64, Try.ntmps64
  go_wp2_with (go_at_call 44; refine (isHeight_no HZ.out _).mono ?_; rintro e w' ⟨rfl, rfl⟩)
  go_ret2
  exact ⟨rfl, Joins.below_alloc1 _ _⟩

/-- The corner itself changes. -/
theorem self_chg {W H n x y : Nat} {Y : Nat → Int} {s : Int} (hg : Good W H n Y) (hx : x ≤ W) (hy : y ≤ H) (hs : s = 1 ∨ s = -1) : (y * (W + 1) + x) ∈ chs W x y (Y (y * (W + 1) + x) + s) s Y n := by
  rw [mem_chs]
  refine ⟨hg.at_lt (by omega) (by omega), ?_⟩
  have e : far W x y (y * (W + 1) + x) = 0 := by rw [far_at (by omega)]; unfold dist; simp
  rcases hs with rfl | rfl
  · rw [chg_up, e]; omega
  · rw [chg_dn, e]; omega

set_option maxHeartbeats 3200000 in
theorem site_go (W H : Nat) (n cap1 : Nat) (Y : Nat → Int) (hg : Good W H n Y) (g1 g2 cap2 : Nat) (F : Nat → Bool) (x y : Nat) (hx : x ≤ W) (hy : y ≤ H) (s : Int) (hs : s = 1 ∨ s = -1) (w : World) {B : Nat}
    (hrow : w.ownsRow B 3 1 (.slice (some ⟨g1, 0, none⟩) n cap1) n (ints n Y)) (hrow2 : w.ownsRow B 4 1 (.slice (some ⟨g2, 0, none⟩) n cap2) n (bools n F)) (hne : g1 ≠ g2)
    (z : Int) (ez : z = Y (y * (W + 1) + x) + s) (hz : 0 ≤ z ∧ z ≤ 15) (L : List Nat) (hL : L = chs W x y z s Y n) (X : Nat → Int) (hX : X = newZ W x y z s Y) :
    Calls Try.prog 64 #[sv4 W H (.slice (some ⟨g1, 0, none⟩) n cap1) (.slice (some ⟨g2, 0, none⟩) n cap2), .int .i64 x, .int .i64 y, .int .i64 s] w fun r w' =>
      ((∃ i ∈ L, F i = true) ∧ r = .returned (.tuple #[.slice none 0 0, .int .i64 7]) ∧ Below w.heap.size w w') ∨
      ((∀ i ∈ L, F i = false) ∧ ∃ v, r = .returned (.tuple #[v, .int .i64 0]) ∧ w'.ownsRow w.heap.size 53 3 v L.length (encC W X L) ∧ w'.ownsRow B 3 1 (.slice (some ⟨g1, 0, none⟩) n cap1) n (ints n X) ∧ w.grownBy w' (some g1)) := by
  obtain ⟨hW1, hW2, hH1, hH2⟩ := hg.side
  have hlb := hg.shaped.bound
  have hmem := self_chg hg hx hy hs
  rw [← ez, ← hL] at hmem
  have hpos : 0 < L.length := List.length_pos_of_mem hmem
  have hLn : ∀ i ∈ L, i < n := fun i hi => by rw [hL, mem_chs] at hi; exact hi.1
  have hLl : L.length ≤ n := by rw [hL]; exact chs_le _ _ _ _ _ _ _
  obtain ⟨a, ha⟩ : ∃ a, a = y * (W + 1) := ⟨_, rfl⟩
  have e1 : (y : Int) * ((W : Int) + 1) = (a : Int) := by rw [ha]; simp
  have hlt : a + x < n := by rw [ha]; exact hg.at_lt (by omega) (by omega)
  have c0 := (hrow.cellAt (a + x) (by omega)).trans (ints_get Y hlt)
  have hi := hg.high (a + x) hlt
  rw [← ha] at ez
  obtain ⟨z0, hz'⟩ : ∃ z, z = Y (a + x) := ⟨_, rfl⟩
  rw [← hz'] at c0 hi ez
  have ez' : z0 + s = z := ez.symm
  obtain ⟨hi1, hi2⟩ := hi
  obtain ⟨hz1, hz2⟩ := hz
  have hgz := (hrow.lt g1 rfl).2
  have hgz2 := (hrow2.lt g2 rfl).2
  have hs2 : -1 ≤ s := by omega
  have hs3 : s ≤ 1 := by omega
  have HS := hid hs
  have HG := hid hg
  have HM := hid (And.intro hL (And.intro hLn (And.intro hX hmem)))
  have HLE : Hid (L.length ≤ n) := hid hLl
  have HROW := hid hrow
  have HROW2 := hid hrow2
  have hIn : Ints (w.alloc (.cells #[.int .i64 W, .int .i64 H, .slice (some ⟨g1, 0, none⟩) n cap1, .slice (some ⟨g2, 0, none⟩) n cap2] 85)) (some ⟨g1, 0, none⟩) n Y := fun j hj =>
    ⟨g1, 0, rfl, by simp; omega, by rw [Nat.zero_add, World.cell?_alloc_past _ _ _ hgz, hrow.cellAt j (by omega), ints_get _ hj]⟩
  have HIN := hid hIn
  clear hrow hrow2 ha hz' hg hs hL hLn hX hmem hLl ez hIn
  go_enter Try.func64, Try.ntmps64
  go_wp2_with (go_at_call 44; refine (isHeight_yes hz1 hz2 _).mono ?_; rintro e w' ⟨rfl, rfl⟩)
  refine (followers_any W H _ n cap1 Y HG.out x y hx hy z s ⟨hz1, hz2⟩ HS.out _ HIN.out).mono ?_
  rintro e w2 ⟨v, rfl, hown, hb2⟩
  rw [← HM.out.1, ← HM.out.2.2.1] at hown
  obtain ⟨gl, capl, rfl, hgl, hgl'⟩ := hown.form hpos
  obtain ⟨Bx, hBx⟩ : ∃ Bx, Bx = w.heap.size := ⟨_, rfl⟩
  have HBX := hid hBx
  have hbx : w2.heap[Bx]? = some (.cells #[.int .i64 W, .int .i64 H, .slice (some ⟨g1, 0, none⟩) n cap1, .slice (some ⟨g2, 0, none⟩) n cap2] 85 (0, 0)) := by
    rw [hb2.block Bx (by rw [hBx]; simp), hBx]; exact heap_alloc_new w _
  have h12 := (Joins.below_alloc1 w (.cells #[.int .i64 W, .int .i64 H, .slice (some ⟨g1, 0, none⟩) n cap1, .slice (some ⟨g2, 0, none⟩) n cap2] 85)).trans (hb2.mono (by simp))
  have hzz := hb2.size
  rw [World.size_alloc] at hgl hzz
  have H2 := hid (And.intro hbx (And.intro h12 (hown.mono' (base' := w.heap.size) (by simp))))
  have hrow := hid (row_stays HROW.out h12)
  have hrow2 := hid (row_stays HROW2.out h12)
  simp only [← hBx] at hgl hzz ⊢
  have hgz' : g1 < Bx := by omega
  have hgz2' : g2 < Bx := by omega
  clear hown hb2 hbx h12 c0 HIN hBx
  go_wp2_with fail
  go_loopw [45] (fun iv wr => ∃ k : Nat, k ≤ L.length ∧ iv = .int .i64 k ∧ Hid (Below w2.heap.size w2 wr ∧ ∀ j, j < k → F (L.getD j 0) = false)) (fun iv _ => L.length - (intOf iv).toNat)
  case atStart => exact ⟨0, Nat.zero_le _, rfl, hid ⟨Below.refl _ _, fun j hj => absurd hj (Nat.not_lt_zero j)⟩⟩
  case round =>
    obtain ⟨k, hk, rfl, hR⟩ := hrel
    by_cases hkl : k < L.length
    · obtain ⟨i, hi⟩ : ∃ i, i = L.getD k 0 := ⟨_, rfl⟩
      have hil : i ∈ L := by rw [hi]; simp [hkl]
      have hin : i < n := HM.out.2.1 i hil
      obtain ⟨xi, hxi⟩ : ∃ q, q = i % (W + 1) := ⟨_, rfl⟩
      obtain ⟨yi, hyi⟩ : ∃ q, q = i / (W + 1) := ⟨_, rfl⟩
      obtain ⟨b, hb⟩ : ∃ b, b = yi * (W + 1) := ⟨_, rfl⟩
      have e2 : (yi : Int) * ((W : Int) + 1) = (b : Int) := by rw [hb]; simp
      have hbi : b + xi = i := by rw [hb, hyi, hxi]; exact (at_split W i).symm
      have hbn : b + xi < n := by omega
      have hyn : yi ≤ 1089 := by rw [hyi]; exact Nat.le_trans (Nat.div_le_self _ _) (by omega)
      have hg3 := encC_get (W := W) (Y := X) hkl
      rw [← hi, ← hxi, ← hyi] at hg3
      have hkz := HLE.out
      have q0 := (hR.out.1.cell (p := ⟨gl, k * 3, none⟩) hgl').trans ((H2.out.2.2.cellAt (k * 3) (by omega)).trans hg3.1)
      have q1 := (hR.out.1.cell (p := ⟨gl, k * 3 + 1, none⟩) hgl').trans ((H2.out.2.2.cellAt (k * 3 + 1) (by omega)).trans hg3.2.1)
      have q2 := (hR.out.1.cell (p := ⟨gl, k * 3 + 2, none⟩) hgl').trans ((H2.out.2.2.cellAt (k * 3 + 2) (by omega)).trans hg3.2.2)
      have f0 := (hR.out.1.cell (p := ⟨g2, b + xi, none⟩) (by show g2 < _; omega)).trans ((hrow2.out.cellAt (b + xi) (by omega)).trans (bools_get F hbn))
      rw [hbi] at f0
      have f0' : wr.cell? ⟨g2, b + xi, none⟩ = some (.bool (F i)) := by rw [hbi]; exact f0
      have s3 : wr.cell? ⟨Bx, 3, none⟩ = some (.slice (some ⟨g2, 0, none⟩) n cap2) := (hR.out.1.cell (p := ⟨Bx, 3, none⟩) (by show Bx < _; omega)).trans (cell_of_row w2 Bx 3 _ _ _ H2.out.1)
      have hBA := hid (And.intro (hR.out.1.alloc hR.out.1.size (.cells #[.int .i64 xi, .int .i64 yi, .int .i64 (X i)] 53)) hR.out.1.size)
      have hwz := hR.out.1.size
      have hl1 : Bx < wr.heap.size := by omega
      have hl2 : g2 < wr.heap.size := by omega
      have hl3 : gl < wr.heap.size := by omega
      have HI := hid hi
      have hIL := hid hil
      obtain ⟨xv, hxv⟩ : ∃ v, v = X i := ⟨_, rfl⟩
      rw [← hxv] at q2 hBA
      have HBI := hid hbi
      clear hi hil hin hxi hyi hb hg3 f0 hxv hbi
      cases hF : F i with
      | true =>
        have HF := hid hF
        rw [hF] at f0'
        clear hF
        go_wp2_with fail
        go_ret2
        refine .inl ⟨⟨i, hIL.out, HF.out⟩, rfl, H2.out.2.1.trans (hBA.out.1.mono (by rw [← HBX.out]; omega))⟩
      | false =>
        have HF := hid hF
        rw [hF] at f0'
        clear hF
        go_wp2_with fail
        go_roundw
        case rel =>
          refine ⟨k + 1, by omega, by go_num, hid ⟨hBA.out.1, fun j hj => ?_⟩⟩
          by_cases h : j < k
          · exact hR.out.2 j h
          · obtain rfl : j = k := by omega
            rw [← HI.out]; exact HF.out
        case measure => simp [intOf]; omega
    · obtain rfl : k = L.length := by omega
      have HNF := hid hR.out.2
      have hB3 := hR.out.1
      have hzr := hR.out.1.size
      have H3 := hid (And.intro (grown_below (g := g1) hB3) (row_stays hrow.out hB3))
      clear hB3 hR
      go_wp2_with fail
      have HGR : Hid (w2.grownBy wr (some g1) ∧ wr.ownsRow B 3 1 (.slice (some ⟨g1, 0, none⟩) n cap1) n (ints n (mid L Y X 0))) :=
        hid ⟨H3.out.1, by rw [ints_congr (Y := Y) (fun i _ => by simp [mid])]; exact H3.out.2⟩
      clear H3 hzr
      go_loopw [63] (fun iv wr => ∃ k : Nat, k ≤ L.length ∧ iv = .int .i64 k ∧ Hid (w2.grownBy wr (some g1) ∧ wr.ownsRow B 3 1 (.slice (some ⟨g1, 0, none⟩) n cap1) n (ints n (mid L Y X k)))) (fun iv _ => L.length - (intOf iv).toNat)
      case atStart => exact ⟨0, Nat.zero_le _, rfl, HGR⟩
      case round =>
        obtain ⟨k, hk, rfl, hR⟩ := hrel
        clear HGR
        by_cases hkl : k < L.length
        · obtain ⟨i, hi⟩ : ∃ i, i = L.getD k 0 := ⟨_, rfl⟩
          have hil : i ∈ L := by rw [hi]; simp [hkl]
          have hin : i < n := HM.out.2.1 i hil
          obtain ⟨xi, hxi⟩ : ∃ q, q = i % (W + 1) := ⟨_, rfl⟩
          obtain ⟨yi, hyi⟩ : ∃ q, q = i / (W + 1) := ⟨_, rfl⟩
          obtain ⟨b, hb⟩ : ∃ b, b = yi * (W + 1) := ⟨_, rfl⟩
          have e2 : (yi : Int) * ((W : Int) + 1) = (b : Int) := by rw [hb]; simp
          have hbi : b + xi = i := by rw [hb, hyi, hxi]; exact (at_split W i).symm
          have hbn : b + xi < n := by omega
          have hyn : yi ≤ 1089 := by rw [hyi]; exact Nat.le_trans (Nat.div_le_self _ _) (by omega)
          have hg3 := encC_get (W := W) (Y := X) hkl
          rw [← hi, ← hxi, ← hyi] at hg3
          have hkz := HLE.out
          have hgg := hR.out.1
          have q0 := hgg.cell ((H2.out.2.2.cellAt (k * 3) (by omega)).trans hg3.1) (by simp; omega)
          have q1 := hgg.cell ((H2.out.2.2.cellAt (k * 3 + 1) (by omega)).trans hg3.2.1) (by simp; omega)
          have q2 := hgg.cell ((H2.out.2.2.cellAt (k * 3 + 2) (by omega)).trans hg3.2.2) (by simp; omega)
          have s2 : wr.cell? ⟨Bx, 2, none⟩ = some (.slice (some ⟨g1, 0, none⟩) n cap1) := hgg.cell (cell_of_row w2 Bx 2 _ _ _ H2.out.1) (by simp; omega)
          have f0 := hR.out.2.frozenAt (b + xi)
          have c0 := (hR.out.2.cellAt (b + xi) (by omega)).trans (ints_get _ hbn)
          obtain ⟨xv, hxv⟩ : ∃ v, v = X i := ⟨_, rfl⟩
          rw [← hxv] at q2
          have hwz := hgg.size
          have hS := hR.out.2.stored (b + xi) (.int .i64 xv)
          rw [ints_set] at hS
          have hN : Hid (w2.grownBy ((wr.setCell ⟨g1, b + xi, none⟩ (.int .i64 xv)).alloc (.cells #[.int .i64 xi, .int .i64 yi, .int .i64 xv] 53)) (some g1) ∧
              ((wr.setCell ⟨g1, b + xi, none⟩ (.int .i64 xv)).alloc (.cells #[.int .i64 xi, .int .i64 yi, .int .i64 xv] 53)).ownsRow B 3 1 (.slice (some ⟨g1, 0, none⟩) n cap1) n (ints n (mid L Y X (k + 1)))) := by
            refine hid ⟨grown_trans (grown_trans hgg hS.2) (World.grownBy_alloc _ _ _), ?_⟩
            have e : mid L Y X (k + 1) = fun i => if i = b + xi then xv else mid L Y X k i := by
              funext p; rw [mid_succ hkl, hbi, ← hi, hxv]
              by_cases h : p = i
              · rw [if_pos h, if_pos h, h]
              · rw [if_neg h, if_neg h]
            rw [e]; exact hS.1.alloc _
          obtain ⟨yv, hyv⟩ : ∃ v, v = mid L Y X k (b + xi) := ⟨_, rfl⟩
          rw [← hyv] at c0
          have hl1 : Bx < wr.heap.size := by omega
          have hl2 : g1 < wr.heap.size := by omega
          have hl3 : gl < wr.heap.size := by omega
          clear hi hil hin hxi hyi hb hg3 hxv hbi hyv hS hgg hR
          go_wp2_with fail
          go_roundw
          case rel => exact ⟨k + 1, by omega, by go_num, hN⟩
          case measure => simp [intOf]; omega
        · obtain rfl : k = L.length := by omega
          go_wp2_with fail
          go_ret2
          refine .inr ⟨fun i hi => ?_, _, rfl, ?_, ?_, ?_⟩
          · obtain ⟨j, hj, rfl⟩ := List.getElem_of_mem hi
            have := HNF.out j hj
            simpa [hj] using this
          · exact row_grown H2.out.2.2 hR.out.1 (by simp [Value.ownBlock]; omega)
          · have e : ints n (mid L Y X L.length) = ints n X := ints_congr fun i hi => by
              unfold mid
              rw [List.take_length]
              by_cases h : i ∈ L
              · rw [if_pos h]
              · rw [if_neg h, HM.out.2.2.1]
                unfold newZ
                rw [if_neg]
                intro hc
                exact h (by rw [HM.out.1, mem_chs]; exact ⟨hi, hc⟩)
            rw [← e]; exact hR.out.2
          · have := HBX.out
            exact grown_trans (grown_below H2.out.2.1) hR.out.1
end Go.Proofs.Ytngamphkehppfaa
