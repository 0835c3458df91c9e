/-
  The walks of exits of the program and of Out of the reference: the sides through which one may leave a tile.
-/
import Derived.Test.YtaepiegbpgkciaaWalkLeave
namespace Go.Proofs.Ytaepiegbpgkciaa
open Go.RowKit

/-- Numbers as cells. -/
def encI (L : List Int) : List Value := L.map fun x => .int .i64 x
theorem encI_length (L : List Int) : (encI L).length = L.length := by simp [encI]
theorem encI_snoc (L : List Int) (x : Int) : encI (L ++ [x]) = encI L ++ [.int .i64 x] := by simp [encI]
theorem encI_get (L : List Int) {j : Nat} (h : j < L.length) : (encI L)[j]? = some (.int .i64 (L.getD j 0)) := by
  simp [encI, List.getElem?_eq_getElem h]
theorem row_slice {w : World} {B : Nat} {e : TypeId} {size n : Nat} {v : Value} {xs : List Value} (h : w.ownsRow B e size v n xs) : ∃ ao cap, v = .slice ao n cap := by
  rcases h.2 with ⟨rfl, rfl⟩ | ⟨g, cap, _, rfl, _⟩
  · exact ⟨none, 0, rfl⟩
  · exact ⟨_, _, rfl⟩
theorem ints_of_row {w : World} {B : Nat} {ao : Option Addr} {n cap : Nat} {L : List Int} (h : w.ownsRow B 3 1 (.slice ao n cap) n (encI L)) (hn : n = L.length) : Ints w ao n (fun j => L.getD j 0) := fun j hj => by
  obtain ⟨g, c, e, _, _⟩ := h.form (by omega)
  cases e
  exact ⟨g, 0, rfl, (h.lt g rfl).2, by rw [Nat.zero_add, h.cellAt j (by omega), encI_get _ (by omega)]⟩
/-- A list of numbers, in memory of the call's own. -/
def Lst1 (L : List Int) (w : World) (r : Ending) (w' : World) : Prop :=
  ∃ ao cap, r = .returned (.slice ao L.length cap) ∧ w'.ownsRow w.heap.size 3 1 (.slice ao L.length cap) L.length (encI L) ∧ Below w.heap.size w w'

/-- The memory of a search for sides: the boxes that lie below a base, the list. -/
structure ES (A B : Nat) (bx : Array Value) (W H : Int) (ao : Option Addr) (n cap : Nat) (Z : Nat → Int) (bo : Option Addr) (m bcap : Nat) (Y : Nat → Int) (L : List Int) (lst : Value) (w wr : World) : Prop where
  hA : wr.heap[A]? = some (.cells #[.int .i64 W, .int .i64 H, .slice ao n cap, .slice bo m bcap] 24 (0, 0))
  hx : B = A + 2 → wr.heap[A + 1]? = some (.cells bx 3 (0, 0))
  hB : B = A + 1 ∨ B = A + 2
  row : wr.ownsRow B 3 1 lst L.length (encI L)
  below : Below A w wr
  arms : Ints wr ao n Z
  ways : Ints wr bo m Y
  size : B ≤ wr.heap.size
section
variable {A B : Nat} {bx : Array Value} {W H : Int} {ao bo : Option Addr} {n cap m bcap : Nat} {Z Y : Nat → Int} {L : List Int} {lst lst' : Value} {w wr w' : World}
theorem ES.stays (h : ES A B bx W H ao n cap Z bo m bcap Y L lst w wr) (k : Below wr.heap.size wr w') : ES A B bx W H ao n cap Z bo m bcap Y L lst w w' :=
  ⟨(k.block A (heap_lt h.hA)).trans h.hA, fun e => (k.block (A + 1) (heap_lt (h.hx e))).trans (h.hx e), h.hB, row_stays h.row k, h.below.trans (k.mono (by have := heap_lt h.hA; omega)), h.arms.stays k, h.ways.stays k, Nat.le_trans h.size k.size⟩
theorem ES.app {x : Int} (h : ES A B bx W H ao n cap Z bo m bcap Y L lst w wr) (hr : w'.ownsRow B 3 1 lst' (L.length + 1) (encI L ++ [.int .i64 x])) (o : Obj) (hg : (wr.alloc o).grownBy w' lst.ownBlock) (hI : Ints w ao n Z) (hJ : Ints w bo m Y) (hAw : A = w.heap.size) : ES A B bx W H ao n cap Z bo m bcap Y (L ++ [x]) lst' w w' := by
  have hz := heap_lt h.hA
  have hs := h.size
  have ho : ∀ k, lst.ownBlock = some k → B ≤ k := fun k hk => (h.row.lt k hk).1
  have hb : Below B wr w' := ((Below.refl _ wr).alloc hs o).grown hg (by simp; omega) ho
  have hBA : A < B := by rcases h.hB with e | e <;> omega
  have hw : Below w.heap.size w w' := by rw [← hAw]; exact h.below.trans (hb.mono (by omega))
  refine ⟨(hb.block A hBA).trans h.hA, fun e => (hb.block (A + 1) (by omega)).trans (h.hx e), h.hB, ?_, by rw [hAw]; exact hw, hI.stays hw, hJ.stays hw, by have := hb.size; omega⟩
  rw [List.length_append, encI_snoc]
  exact hr
theorem ES.cb {D : Nat} {t : Int} (h : ES A B #[.int .i64 t] W H ao n cap Z bo m bcap Y L lst w wr) (e : B = A + 2) (hD : D = A + 1) : CB A D W H ao n cap Z bo m bcap Y t wr := by
  subst hD
  have hx := h.hx e
  exact ⟨heap_lt h.hA, heap_lt hx, cell_of_row wr A 0 _ _ _ h.hA, cell_of_row wr A 1 _ _ _ h.hA, cell_of_row wr A 2 _ _ _ h.hA, cell_of_row wr A 3 _ _ _ h.hA, cell_of_row wr (A + 1) 0 _ _ _ hx, h.arms, h.ways⟩
theorem ES.cells (h : ES A B bx W H ao n cap Z bo m bcap Y L lst w wr) : wr.cell? ⟨A, 0, none⟩ = some (.int .i64 W) ∧ wr.cell? ⟨A, 1, none⟩ = some (.int .i64 H) ∧ wr.cell? ⟨A, 2, none⟩ = some (.slice ao n cap) ∧ wr.cell? ⟨A, 3, none⟩ = some (.slice bo m bcap) ∧ A < wr.heap.size :=
  ⟨cell_of_row wr A 0 _ _ _ h.hA, cell_of_row wr A 1 _ _ _ h.hA, cell_of_row wr A 2 _ _ _ h.hA, cell_of_row wr A 3 _ _ _ h.hA, heap_lt h.hA⟩
end
theorem es_start1 {W H : Int} {ao bo : Option Addr} {n cap m bcap : Nat} {Z Y : Nat → Int} {w : World} (hI : Ints w ao n Z) (hJ : Ints w bo m Y) (bx : Array Value) :
    ES w.heap.size (w.heap.size + 1) bx W H ao n cap Z bo m bcap Y [] (.slice none 0 0) w (w.alloc (.cells #[.int .i64 W, .int .i64 H, .slice ao n cap, .slice bo m bcap] 24)) := by
  refine ⟨?_, fun e => by omega, .inl rfl, World.ownsRow_nil _ _ _ _, Joins.below_alloc1 _ _, hI.stays (Joins.below_alloc1 _ _), hJ.stays (Joins.below_alloc1 _ _), by simp⟩
  show (w.heap.push _)[_]? = _
  rw [Array.getElem?_push, if_pos rfl]
theorem es_start2 {W H : Int} {ao bo : Option Addr} {n cap m bcap : Nat} {Z Y : Nat → Int} {w : World} (hI : Ints w ao n Z) (hJ : Ints w bo m Y) (t : Int) :
    ES w.heap.size (w.heap.size + 2) #[.int .i64 t] W H ao n cap Z bo m bcap Y [] (.slice none 0 0) w ((w.alloc (.cells #[.int .i64 W, .int .i64 H, .slice ao n cap, .slice bo m bcap] 24)).alloc (.cells #[.int .i64 t] 3)) := by
  have h := bx2_start w 24 3 #[.int .i64 W, .int .i64 H, .slice ao n cap, .slice bo m bcap] #[.int .i64 t]
  exact ⟨h.hb, fun _ => h.hr, .inr rfl, World.ownsRow_nil _ _ _ _, h.below, hI.stays h.below, hJ.stays h.below, by simp⟩

set_option maxHeartbeats 6400000 in
theorem exits_to (W H : Int) (ao : Option Addr) (n cap : Nat) (Z : Nat → Int) (bo : Option Addr) (bcap : Nat) (Y : Nat → Int) (hs : Sized W H) (hn : (n : Int) = W * H) (hz : ∀ i, i < n → Fine (Z i) (Y i)) (t : Nat) (fr : Int) (ht : t < n) (hf : fr ≤ 3) (w : World) (hI : Ints w ao n Z) (hJ : Ints w bo n Y) :
    Calls Try.prog 57 #[rv W H (.slice ao n cap) (.slice bo n bcap), .int .i64 t, .int .i64 fr] w (Lst1 (outl W H Z Y t fr) w) := by
  obtain ⟨i0, hi, hz0, hz1, hz2⟩ := info_parts info3
  have HIN := hid (And.intro hi (And.intro hz0 (And.intro hz1 hz2)))
  have HE := hid (es_start2 (W := W) (H := H) (cap := cap) (bcap := bcap) hI hJ (t : Int))
  have HI := hid hI
  have HJ := hid hJ
  have HS := hid hs
  have HN := hid hn
  have HZ := hid hz
  have HT := hid ht
  have HFR := hid hf
  obtain ⟨A, hA⟩ : ∃ A, A = w.heap.size := ⟨_, rfl⟩
  have HA := hid hA
  simp only [← hA] at HE
  obtain ⟨L, hL⟩ : ∃ L, outl W H Z Y t fr = L := ⟨_, rfl⟩
  have HL := hid hL
  rw [hL]
  clear hi hz0 hz1 hz2 hI hJ hs hn hz ht hL
  have hmf : ∀ (fn : Fn) (first cap : Array Value) (w : World), (Instr.makeFunc fn first cap).run Try.prog w = .ok (.func fn first cap) w := fun _ _ _ _ => rfl
  go_enter Try.func57, Try.ntmps57
  go_wp2_with fail
  simp only [← hA]
  clear hA hmf
  generalize World.alloc _ _ = w1 at HE ⊢
  go_loopg [8, 11] 4 (fun gk lst iv wr => ∃ k : Nat, gk + k = 4 ∧ iv = .int .i64 k ∧ Hid (ES A (A + 2) #[.int .i64 t] W H ao n cap Z bo n bcap Y (outs W H Z Y t fr k) lst w wr))
  case atStart => exact ⟨0, rfl, rfl, HE⟩
  case round =>
    obtain ⟨k, hk, rfl, hR⟩ := hrel
    clear HE
    have hk4 : k ≤ 4 := by omega
    have HK := hid hk
    clear hk
    by_cases hlt : k < 4
    · by_cases hkf : (k : Int) = fr
      · have e : ((k : Int) != fr) = false := by simp [hkf]
        have HKF := hid hkf
        clear hkf
        go_wp2_with fail
        go_roundg (gk - 1)
        case measure => have := HK.out; omega
        case rel => exact ⟨k + 1, by have := HK.out; omega, by go_num, hid (by rw [outs_no (fun h => h.1 HKF.out)]; exact hR.out)⟩
      · have e : ((k : Int) != fr) = true := by simpa using hkf
        have HKF := hid hkf
        clear hkf
        go_wp2_with fail
        cases hh : leave W H Z Y t k
        · refine (open_to A (A + 1) W H ao n cap Z bo bcap Y HS.out HN.out HZ.out t k HT.out (by omega) (by omega) false hh _ (hR.out.cb rfl rfl)).mono ?_
          rintro r w4 ⟨rfl, hb4⟩
          have H4 := hid (hR.out.stays hb4)
          have HH := hid hh
          clear hb4 hR hh
          go_wp2_with fail
          go_roundg (gk - 1)
          case measure => have := HK.out; omega
          case rel => exact ⟨k + 1, by have := HK.out; omega, by go_num, hid (by rw [outs_no (fun h => by rw [HH.out] at h; cases h.2)]; exact H4.out)⟩
        · refine (open_to A (A + 1) W H ao n cap Z bo bcap Y HS.out HN.out HZ.out t k HT.out (by omega) (by omega) true hh _ (hR.out.cb rfl rfl)).mono ?_
          rintro r w4 ⟨rfl, hb4⟩
          have H4 := hid (hR.out.stays hb4)
          have HH := hid hh
          have hlen := outs_len W H Z Y t fr k
          have hz4 := H4.out.size
          clear hb4 hR hh
          go_wp2_with (at_builtin; refine wpList_append_own _ rfl _ _ 22 rfl (A + 2) 3 i0 (.int .i64 0) 1 8 Try.underlying22 HIN.out.1 HIN.out.2.1 HIN.out.2.2.1 HIN.out.2.2.2 rfl (by decide) _ _ _ rfl (H4.out.row.alloc _) ⟨w4.heap.size, 0, none⟩ 1 1 [.int .i64 k] rfl rfl ?c1 ?c2 ?c3 ?c4 ?c5 ?_)
          case c1 =>
            intro j u hj
            match j, hj with
            | 0, hj => simp at hj; subst hj; simp [Addr.add]
          case c2 => intro u hu; simp at hu; subst hu; rfl
          case c3 => unfold maxLen; omega
          case c4 => omega
          case c5 => simp; omega
          intro v' w5 hown' hgrow _
          have H5 := hid (H4.out.app (x := (k : Int)) hown' _ hgrow HI.out HJ.out HA.out)
          clear hown' hgrow
          go_wp2_with fail
          go_roundg (gk - 1)
          case measure => have := HK.out; omega
          case rel => exact ⟨k + 1, by have := HK.out; omega, by go_num, hid (by rw [outs_yes HKF.out HH.out]; exact H5.out)⟩
    · obtain rfl : k = 4 := by omega
      clear hlt hk4
      have hlen := outs_len W H Z Y t fr 4
      have HO : Hid (L = if outs W H Z Y t fr 4 = [] ∧ 0 ≤ fr ∧ leave W H Z Y t fr = true then [fr] else outs W H Z Y t fr 4) := hid HL.out.symm
      clear HL
      obtain ⟨O, hO⟩ : ∃ O, outs W H Z Y t fr 4 = O := ⟨_, rfl⟩
      rw [hO] at hR HO hlen
      clear hO
      obtain ⟨al, cl, rfl⟩ := row_slice hR.out.row
      by_cases h0 : O.length = 0
      · obtain rfl : O = [] := List.length_eq_zero_iff.1 h0
        clear h0 hlen
        simp only [List.length_nil] at hR ⊢
        by_cases hf0 : 0 ≤ fr
        · have HF0 := hid hf0
          cases hh : leave W H Z Y t fr
          · have HH := hid hh
            clear hh
            go_wp2_with fail
            refine (open_to A (A + 1) W H ao n cap Z bo bcap Y HS.out HN.out HZ.out t fr HT.out HF0.out HFR.out false HH.out _ (hR.out.cb rfl rfl)).mono ?_
            rintro r w4 ⟨rfl, hb4⟩
            have H4 := hid (hR.out.stays hb4)
            clear hb4 hR
            go_wp2_with fail
            go_ret
            obtain rfl : L = [] := by rw [HO.out, if_neg (fun h => by rw [HH.out] at h; cases h.2.2)]
            exact ⟨al, cl, rfl, row_mono H4.out.row (by rw [← HA.out]; omega), by rw [← HA.out]; exact H4.out.below⟩
          · have HH := hid hh
            clear hh
            go_wp2_with fail
            refine (open_to A (A + 1) W H ao n cap Z bo bcap Y HS.out HN.out HZ.out t fr HT.out HF0.out HFR.out true HH.out _ (hR.out.cb rfl rfl)).mono ?_
            rintro r w4 ⟨rfl, hb4⟩
            have H4 := hid (hR.out.stays hb4)
            have hz4 := H4.out.size
            have h40 : w4.ownsRow (A + 2) 3 1 (.slice al 0 cl) 0 [] := H4.out.row
            clear hb4 hR
            go_wp2_with (at_builtin; refine wpList_append_own _ rfl _ _ 22 rfl (A + 2) 3 i0 (.int .i64 0) 1 8 Try.underlying22 HIN.out.1 HIN.out.2.1 HIN.out.2.2.1 HIN.out.2.2.2 rfl (by decide) _ _ _ rfl (h40.alloc _) ⟨w4.heap.size, 0, none⟩ 1 1 [.int .i64 fr] rfl rfl ?c1 ?c2 ?c3 ?c4 ?c5 ?_)
            case c1 =>
              intro j u hj
              match j, hj with
              | 0, hj => simp at hj; subst hj; simp [Addr.add]
            case c2 => intro u hu; simp at hu; subst hu; rfl
            case c3 => unfold maxLen; omega
            case c4 => omega
            case c5 => simp; omega
            intro v' w5 hown' hgrow _
            have H5 := hid (H4.out.app (x := fr) hown' _ hgrow HI.out HJ.out HA.out)
            clear hown' hgrow
            go_wp2_with fail
            go_ret
            obtain rfl : L = [] ++ [fr] := by rw [HO.out, if_pos ⟨trivial, HF0.out, HH.out⟩]; rfl
            obtain ⟨al', cl', rfl⟩ := row_slice H5.out.row
            exact ⟨al', cl', rfl, row_mono H5.out.row (by rw [← HA.out]; omega), by rw [← HA.out]; exact H5.out.below⟩
        · have hf1 : fr < 0 := by omega
          have HF0 := hid hf1
          clear hf0
          go_wp2_with fail
          go_ret
          obtain rfl : L = [] := by rw [HO.out, if_neg (fun h => by have := HF0.out; omega)]
          exact ⟨al, cl, rfl, row_mono hR.out.row (by rw [← HA.out]; omega), by rw [← HA.out]; exact hR.out.below⟩
      · have e0 : ((O.length : Int) == 0) = false := by simp; exact fun h => h0 (by rw [h]; rfl)
        have HO0 : Hid (O ≠ []) := hid (fun h => h0 (by rw [h]; rfl))
        clear h0
        go_wp2_with fail
        go_ret
        obtain rfl : L = O := by rw [HO.out, if_neg (fun h => HO0.out h.1)]
        exact ⟨al, cl, rfl, row_mono hR.out.row (by rw [← HA.out]; omega), by rw [← HA.out]; exact hR.out.below⟩
end Go.Proofs.Ytaepiegbpgkciaa
