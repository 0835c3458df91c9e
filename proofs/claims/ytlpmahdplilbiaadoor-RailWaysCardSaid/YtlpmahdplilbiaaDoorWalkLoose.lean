/-
  The walk of Loose of the program: the spots that lead nowhere.
-/
import Derived.Test.YtlpmahdplilbiaaDoorLawNext
namespace Go.Proofs.YtlpmahdplilbiaaDoor
open Go.RowKit

/-- The k-th of all spots; whether it lies and leads nowhere; those among the first k. -/
def spotK (k : Nat) : Int × Int × Int := (((k / 24 : Nat) : Int), ((k / 4 % 6 : Nat) : Int), ((k % 4 : Nat) : Int))
def lseB (W H : Int) (n : Nat) (Z : Nat → Int) (k : Nat) : Bool := decide (0 ≤ oth (spotK k).2.1 (spotK k).2.2) && Lie n Z (spotK k).1 (spotK k).2.1 && (nxt W H Z (spotK k).1 (spotK k).2.2).isEmpty
def loo (W H : Int) (n : Nat) (Z : Nat → Int) : Nat → List (Int × Int × Int)
  | 0 => []
  | k + 1 => if lseB W H n Z k = true then loo W H n Z k ++ [spotK k] else loo W H n Z k
theorem loo_yes {W H : Int} {n : Nat} {Z : Nat → Int} {k : Nat} (h : lseB W H n Z k = true) : loo W H n Z (k + 1) = loo W H n Z k ++ [spotK k] := by
  show (if _ then _ else _) = _
  rw [if_pos h]
theorem loo_no {W H : Int} {n : Nat} {Z : Nat → Int} {k : Nat} (h : lseB W H n Z k = false) : loo W H n Z (k + 1) = loo W H n Z k := by
  show (if _ then _ else _) = _
  rw [if_neg (by rw [h]; simp)]
theorem loo_len (W H : Int) (n : Nat) (Z : Nat → Int) (k : Nat) : (loo W H n Z k).length ≤ k := by
  induction k with
  | zero => exact Nat.le_refl _
  | succ k ih =>
    cases h : lseB W H n Z k
    · rw [loo_no h]; omega
    · rw [loo_yes h, List.length_append]; simp; omega
theorem lse_iff {W H : Int} {n : Nat} {Z : Nat → Int} {k : Nat} {t p s : Int} (e : spotK k = (t, p, s)) : lseB W H n Z k = true ↔ IsSpot n Z t p s ∧ nxt W H Z t s = [] := by
  unfold lseB IsSpot
  rw [e]
  simp [and_assoc]

/-- The memory of Loose. -/
structure QS (Wd Hd : Int) (ao : Option Addr) (n cap : Nat) (Z : Nat → Int) (bo : Option Addr) (m bcap : Nat) (B : Nat → Bool) (L : List (Int × Int × Int)) (lst : Value) (w wr : World) : Prop where
  rb : RB Wd Hd ao n cap Z bo m bcap B w wr
  row : wr.ownsRow (w.heap.size + 1) 31 3 lst L.length (encS L)
section
variable {Wd Hd : Int} {ao bo : Option Addr} {n cap m bcap : Nat} {Z : Nat → Int} {B : Nat → Bool} {L : List (Int × Int × Int)} {lst lst' : Value} {w wr w' : World} {x : Int × Int × Int}
theorem QS.stays (h : QS Wd Hd ao n cap Z bo m bcap B L lst w wr) (k : Below wr.heap.size wr w') : QS Wd Hd ao n cap Z bo m bcap B L lst w w' := ⟨h.rb.stays k, row_stays h.row k⟩
theorem RB.far (h : RB Wd Hd ao n cap Z bo m bcap B w wr) (hT : Tab w) (hI : Ints w ao n Z) (hB : Bools w bo m B) (k : Below (w.heap.size + 1) wr w') : RB Wd Hd ao n cap Z bo m bcap B w w' := by
  have hb := h.below.trans (k.mono (Nat.le_succ _))
  exact ⟨hb, Nat.lt_of_lt_of_le h.size k.size, (k.cell (p := ⟨w.heap.size, 0, none⟩) (Nat.lt_succ_self _)).trans h.c0, (k.cell (p := ⟨w.heap.size, 1, none⟩) (Nat.lt_succ_self _)).trans h.c1, (k.cell (p := ⟨w.heap.size, 2, none⟩) (Nat.lt_succ_self _)).trans h.c2,
    (k.cell (p := ⟨w.heap.size, 3, none⟩) (Nat.lt_succ_self _)).trans h.c3, hI.stays hb, hB.stays hb, hT.stays hb⟩
theorem QS.app (h : QS Wd Hd ao n cap Z bo m bcap B L lst w wr) (hT : Tab w) (hI : Ints w ao n Z) (hB : Bools w bo m B) (hr : w'.ownsRow (w.heap.size + 1) 31 3 lst' (L.length + 1) (encS L ++ sc x)) (o : Obj) (hg : (wr.alloc o).grownBy w' lst.ownBlock) :
    QS Wd Hd ao n cap Z bo m bcap B (L ++ [x]) lst' w w' := by
  have ho : ∀ k, lst.ownBlock = some k → w.heap.size + 1 ≤ k := fun k hk => (h.row.lt k hk).1
  have hsz := h.rb.size
  have hb : Below (w.heap.size + 1) wr w' := ((Below.refl _ wr).alloc (by omega) o).grown hg (by simp; omega) ho
  refine ⟨h.rb.far hT hI hB hb, ?_⟩
  rw [List.length_append, encS_snoc]
  exact hr
end

set_option maxHeartbeats 3200000 in
theorem loose_yes (W H : Int) (ao : Option Addr) (n cap : Nat) (Z : Nat → Int) (bo : Option Addr) (m bcap : Nat) (B : Nat → Bool) (hn : n ≤ 9223372036854775807) (hm : m ≤ 9223372036854775807) (hR : Right W H n m Z B) (w : World) (hT : Tab w) (hI : Ints w ao n Z) (hB : Bools w bo m B) :
    Calls Tryd.prog 36 #[rv W H (.slice ao n cap) (.slice bo m bcap)] w (NextOut (loo W H n Z (n * 24)) 0 w) := by
  obtain ⟨i0, hi, hz0, hz1, hz2⟩ := info_parts info31
  have HIN := hid (And.intro hi (And.intro hz0 (And.intro hz1 hz2)))
  clear hi hz0 hz1 hz2
  have HI := hid hI
  have HB := hid hB
  have HT := hid hT
  have HR0 := hid (rb_start (Wd := W) (Hd := H) (cap := cap) (bcap := bcap) hT hI hB)
  have HV := hid (verr_ok hR)
  have HR := hid hR
  have hbd := hR.sized.bound
  have hnW := hR.sets
  have hn2 : n ≤ 1024 := by omega
  obtain ⟨X, hX⟩ : ∃ X, X = w.heap.size := ⟨_, rfl⟩
  have HX := hid hX
  have HNW : Hid (W * H * 6 * 4 = ((n * 24 : Nat) : Int)) := hid (by rw [← hnW]; omega)
  obtain ⟨b1, b2⟩ := hbd
  clear hI hB hT hR hnW
  go_enter Tryd.func36, Tryd.ntmps36
  go_wp2_with fail
  refine (validate_any W H ao n cap Z bo m bcap B hn hm _ HR0.out.ints HR0.out.bools 0 HV.out).mono ?_
  rintro r w1 ⟨rfl, hb1⟩
  have HQ : Hid (QS W H ao n cap Z bo m bcap B (loo W H n Z 0) (.slice none 0 0) w w1) := hid ⟨HR0.out.stays hb1, World.ownsRow_nil _ _ _ _⟩
  have c0 := (HR0.out.stays hb1).c0
  have c1 := (HR0.out.stays hb1).c1
  rw [← hX] at c0 c1
  simp only [← hX]
  clear hb1 hX HR0 HV
  go_wp2_with fail
  rw [HNW.out]
  clear c0 c1
  go_loopg [5, 20] (n * 24) (fun gk lst iv wr => ∃ k : Nat, gk + k = n * 24 ∧ iv = .int .i64 k ∧ Hid (QS W H ao n cap Z bo m bcap B (loo W H n Z k) lst w wr))
  case atStart => exact ⟨0, rfl, rfl, HQ⟩
  case round =>
    obtain ⟨k, hk, rfl, hQ⟩ := hrel
    clear HQ
    have hk6 : k ≤ n * 24 := by omega
    have HK := hid hk
    clear hk
    by_cases hlt : k < n * 24
    · obtain ⟨⟨t, p, s⟩, hx⟩ : ∃ x, spotK k = x := ⟨_, rfl⟩
      have ht : (k : Int) / 4 / 6 = t := by have := congrArg (·.1) hx; simp [spotK] at this; omega
      have hp : (k : Int) / 4 % 6 = p := by have := congrArg (·.2.1) hx; simp [spotK] at this; omega
      have hs : (k : Int) % 4 = s := by have := congrArg (·.2.2) hx; simp [spotK] at this; omega
      have HSP := hid hx
      have HT0 : Hid (0 ≤ t ∧ t < W * H ∧ 0 ≤ s ∧ s ≤ 3) := hid ⟨by omega, by have := HR.out.sets; omega, by omega, by omega⟩
      have c0 := hQ.out.rb.c0
      have c1 := hQ.out.rb.c1
      have c2 := hQ.out.rb.c2
      have c3 := hQ.out.rb.c3
      have hXz := hQ.out.rb.size
      rw [← HX.out] at c0 c1 c2 c3 hXz
      have HQ1 := hid (hQ.out.stays (Joins.below_alloc1 wr (.cells #[.int .i64 t, .int .i64 p, .int .i64 s] 31)))
      clear hx hQ
      by_cases hsp : IsSpot n Z t p s
      · have HP := hid hsp
        clear hsp
        go_wp2_with fail
        refine (isSpot_any W H ao n cap Z _ HR.out.sized HR.out.sets (fun i hi => ⟨(HR.out.fine i hi).1, (HR.out.fine i hi).2.1⟩) t p s true ⟨fun _ => HP.out, fun _ => rfl⟩ _ HQ1.out.rb.tab HQ1.out.rb.ints).mono ?_
        rintro r w2 ⟨rfl, hb2⟩
        obtain ⟨hz2, hc2, hb2'⟩ := after hb2
        have u0 := hc2 0
        have u1 := hc2 1
        have u2 := hc2 2
        simp only [List.getElem?_toArray, List.getElem?_cons_zero, List.getElem?_cons_succ] at u0 u1 u2
        have HQ2 := hid (HQ1.out.stays hb2)
        have d0 := (hb2'.cell (p := ⟨X, 0, none⟩) hXz).trans c0
        have d1 := (hb2'.cell (p := ⟨X, 1, none⟩) hXz).trans c1
        have d2 := (hb2'.cell (p := ⟨X, 2, none⟩) hXz).trans c2
        have d3 := (hb2'.cell (p := ⟨X, 3, none⟩) hXz).trans c3
        clear hb2 hc2 hb2' c0 c1 c2 c3 HQ1
        go_wp2_with fail
        refine (follow_any W H ao n cap Z _ HR.out.sized HR.out.sets (fun i hi => ⟨(HR.out.fine i hi).1, (HR.out.fine i hi).2.1⟩) t p s HT0.out.1 HT0.out.2.1 HT0.out.2.2.1 HT0.out.2.2.2 _ HQ2.out.rb.tab HQ2.out.rb.ints).mono ?_
        rintro r w3 ⟨l1, rfl, hr1, hb3⟩
        have HQ3 := hid (HQ2.out.stays hb3)
        have v0 := (hb3.cell (p := ⟨wr.heap.size, 0, none⟩) hz2).trans u0
        have v1 := (hb3.cell (p := ⟨wr.heap.size, 1, none⟩) hz2).trans u1
        have v2 := (hb3.cell (p := ⟨wr.heap.size, 2, none⟩) hz2).trans u2
        have hl := nxt_len W H Z t s
        obtain ⟨al, cl, rfl⟩ := row_slice hr1
        have hz3 : wr.heap.size < w3.heap.size := by have := hb3.size; omega
        clear hr1 hb3 u0 u1 u2 d0 d1 d2 d3 HQ2
        by_cases hne : nxt W H Z t s = []
        · have hlen : (nxt W H Z t s).length = 0 := by rw [hne]; rfl
          have HE : Hid (lseB W H n Z k = true) := hid ((lse_iff HSP.out).2 ⟨HP.out, hne⟩)
          have hlo := loo_len W H n Z k
          have hsz := HQ3.out.rb.size
          have HSZ : Hid (w.heap.size + 1 ≤ w3.heap.size) := hid (by omega)
          rw [hlen]
          clear hlen hne hl hsz
          go_wp2_with (at_builtin; refine wpList_append_own _ rfl _ _ 46 rfl (w.heap.size + 1) 31 i0 (.agg #[.int .i64 0, .int .i64 0, .int .i64 0]) 3 24 Tryd.underlying46 HIN.out.1 HIN.out.2.1 HIN.out.2.2.1 HIN.out.2.2.2 rfl (by decide) _ _ _ rfl (HQ3.out.row.alloc _) ⟨w3.heap.size, 0, none⟩ 1 1 [.int .i64 t, .int .i64 p, .int .i64 s] rfl rfl ?c1 ?c2 ?c3 ?c4 ?c5 ?_)
          case c1 =>
            intro j u hj
            match j, hj with
            | 0, hj => simp at hj; subst hj; simp [Addr.add]
            | 1, hj => simp at hj; subst hj; simp [Addr.add]
            | 2, hj => simp at hj; subst hj; simp [Addr.add]
          case c2 => intro u hu; simp at hu; rcases hu with rfl | rfl | rfl <;> rfl
          case c3 => unfold maxLen; omega
          case c4 => omega
          case c5 => have := HSZ.out; simp; omega
          intro v' w5 hown' hgrow _
          have H5 := hid (HQ3.out.app (x := (t, p, s)) HT.out HI.out HB.out hown' _ hgrow)
          clear hown' hgrow
          go_wp2_with fail
          go_roundg (gk - 1)
          case measure => have := HK.out; omega
          case rel => exact ⟨k + 1, by have := HK.out; omega, by go_num, hid (by rw [loo_yes HE.out, HSP.out]; exact H5.out)⟩
        · have HE : Hid (lseB W H n Z k = false) := hid (by rw [Bool.eq_false_iff]; exact fun h => hne ((lse_iff HSP.out).1 h).2)
          obtain ⟨q, hq⟩ : ∃ q, q = (nxt W H Z t s).length := ⟨_, rfl⟩
          have hq0 : 0 < q := by rw [hq]; exact List.length_pos_iff.2 hne
          rw [← hq] at hl ⊢
          have hq1 : ((q : Int) == 0) = false := by simp; omega
          clear hne hq
          go_wp2_with fail
          go_roundg (gk - 1)
          case measure => have := HK.out; omega
          case rel => exact ⟨k + 1, by have := HK.out; omega, by go_num, hid (by rw [loo_no HE.out]; exact HQ3.out)⟩
      · have HP := hid hsp
        have HE : Hid (lseB W H n Z k = false) := hid (by rw [Bool.eq_false_iff]; exact fun h => hsp ((lse_iff HSP.out).1 h).1)
        clear hsp
        go_wp2_with fail
        refine (isSpot_any W H ao n cap Z _ HR.out.sized HR.out.sets (fun i hi => ⟨(HR.out.fine i hi).1, (HR.out.fine i hi).2.1⟩) t p s false ⟨fun h => (by cases h), fun h => absurd h HP.out⟩ _ HQ1.out.rb.tab HQ1.out.rb.ints).mono ?_
        rintro r w2 ⟨rfl, hb2⟩
        have HQ2 := hid (HQ1.out.stays hb2)
        clear hb2 c0 c1 c2 c3 HQ1
        go_wp2_with fail
        go_roundg (gk - 1)
        case measure => have := HK.out; omega
        case rel => exact ⟨k + 1, by have := HK.out; omega, by go_num, hid (by rw [loo_no HE.out]; exact HQ2.out)⟩
    · obtain rfl : k = n * 24 := by omega
      go_wp2_with fail
      go_ret2
      exact ⟨_, rfl, row_mono hQ.out.row (by omega), hQ.out.rb.below⟩
end Go.Proofs.YtlpmahdplilbiaaDoor
