/-
  The walks of Sound, of the reference's Sound and of the law RouteSounds.
-/
import Derived.Test.YtokpdjdpeaccbaaGGes
import Derived.Test.YtokpdjdpeaccbaaGLVal
namespace Go.Proofs.Ytokpdjdpeaccbaa
open Go.RowKit

/-- A guess that says too much over an edge. -/
def overE (Z : Nat → Int) (e : Ed) : Bool := decide (e.c + Z e.t.toNat < Z e.f.toNat)
/-- What a graph, nodes and a guess are where nothing is wrong. -/
structure GOk (n : Int) (m : Nat) (E : Nat → Ed) (q : Nat) (Y : Nat → Int) (k : Nat) (Z : Nat → Int) : Prop where
  kn : (k : Int) = n
  ed : ∀ i, i < m → ∃ u v : Nat, E i = ⟨u, v, (E i).c⟩ ∧ u < k ∧ v < k ∧ 0 ≤ (E i).c ∧ (E i).c ≤ 1000000
  nd : ∀ j, j < q → ∃ u : Nat, Y j = u ∧ u < k
  gs : ∀ j, j < k → 0 ≤ Z j ∧ Z j ≤ 1000000
theorem badN_no {n x : Int} (h : badN n x = false) : 0 ≤ x ∧ x < n := by
  unfold badN at h
  have h1 : ¬ x < 0 := fun h' => by simp [h'] at h
  have h2 : ¬ n ≤ x := fun h' => by simp [h'] at h
  omega
theorem GOk.of {n : Int} {m : Nat} {E : Nat → Ed} {q : Nat} {Y : Nat → Int} {k : Nat} {Z : Nat → Int} (h : GErr n m E q Y k Z = 0) : GOk n m E q Y k Z := by
  unfold GErr at h
  by_cases hN : NErr n m E q Y = 0
  · rw [if_neg (by simpa using hN)] at h
    by_cases hk : (k : Int) = n
    · rw [if_neg (by simpa using hk)] at h
      cases hg : anyP k (fun i => badG (Z i))
      · unfold NErr at hN
        by_cases hV : VErr n m E = 0
        · rw [if_neg (by simpa using hV)] at hN
          cases hn : anyP q (fun i => badN n (Y i))
          · unfold VErr at hV
            by_cases c1 : 1000 < n ∨ 4000 < m
            · rw [if_pos c1] at hV; exact absurd hV (by decide)
            · rw [if_neg c1] at hV
              by_cases c2 : n < 0 ∨ anyP m (fun i => dearE (E i)) = true
              · rw [if_pos c2] at hV; exact absurd hV (by decide)
              · rw [if_neg c2] at hV
                cases ho : anyP m (fun i => offE n (E i))
                · refine ⟨hk, fun i hi => ?_, fun j hj => ?_, fun j hj => ?_⟩
                  · have h1 := anyP_no' ho hi
                    have h2 : dearE (E i) = false := anyP_no' (p := fun i => dearE (E i)) (by cases h' : anyP m (fun i => dearE (E i)); rfl; exact absurd (.inr h') c2) hi
                    simp only [offE, Bool.or_eq_false_iff] at h1
                    have h3 := badN_no h1.1
                    have h4 := badN_no h1.2
                    unfold dearE at h2
                    have h5 : ¬ (E i).c < 0 := fun h' => by simp [h'] at h2
                    have h6 : ¬ 1000000 < (E i).c := fun h' => by simp [h'] at h2
                    refine ⟨(E i).f.toNat, (E i).t.toNat, ?_, by omega, by omega, by omega, by omega⟩
                    rw [Int.toNat_of_nonneg h3.1, Int.toNat_of_nonneg h4.1]
                  · have h1 := badN_no (anyP_no' hn hj)
                    exact ⟨(Y j).toNat, by rw [Int.toNat_of_nonneg h1.1], by omega⟩
                  · have h1 : badG (Z j) = false := anyP_no' hg hj
                    unfold badG at h1
                    have h5 : ¬ (Z j) < 0 := fun h' => by simp [h'] at h1
                    have h6 : ¬ 1000000 < (Z j) := fun h' => by simp [h'] at h1
                    omega
                · rw [ho, if_pos rfl] at hV; exact absurd hV (by decide)
          · rw [hn, if_pos rfl] at hN; exact absurd hN (by decide)
        · rw [if_pos hV] at hN; exact absurd hN hV
      · rw [hg, if_pos rfl] at h; exact absurd h (by decide)
    · rw [if_pos hk] at h; exact absurd h (by decide)
  · rw [if_pos hN] at h; exact absurd h hN
set_option maxRecDepth 100000 in
set_option maxHeartbeats 3200000 in
theorem over_any (b u v k zc : Nat) (c : Int) (zo : Option Addr) (Z : Nat → Int) (hu : u < k) (hv : v < k) (hc : 0 ≤ c ∧ c ≤ 1000000) (hz : ∀ j, j < k → 0 ≤ Z j ∧ Z j ≤ 1000000) (w : World) (hb : w.cell? ⟨b, 0, none⟩ = some (.slice zo k zc)) (hI : Ints w zo k Z) :
    Calls Try.prog 53 #[ev ⟨u, v, c⟩, .pointer (some ⟨b, 0, none⟩)] w fun r w' => r = .returned (.bool (overE Z ⟨u, v, c⟩)) ∧ Below w.heap.size w w' := by
  obtain ⟨zb, off, e, hzl, c0⟩ := hI u hu
  obtain ⟨_, _, e', _, c1⟩ := hI v hv
  subst e
  cases e'
  have hbl := lt_of_cell hb
  have z0 := hz u hu
  have z1 := hz v hv
  simp only at c0 c1
  have HN := hid (heap_new w (.cells #[.int .i64 (u : Int), .int .i64 (v : Int), .int .i64 c] 41))
  have hba : Below w.heap.size w (w.alloc (.cells #[.int .i64 (u : Int), .int .i64 (v : Int), .int .i64 c] 41)) := (Below.refl _ _).alloc (Nat.le_refl _) _
  have c0' := (hba.cell (p := ⟨zb, off + u, none⟩) hzl).trans c0
  have c1' := (hba.cell (p := ⟨zb, off + v, none⟩) hzl).trans c1
  have hb' := (hba.cell (p := ⟨b, 0, none⟩) hbl).trans hb
  have HBA := hid hba
  clear c0 c1 hb hba hI
  obtain ⟨zu, hzu⟩ : ∃ x, Z u = x := ⟨_, rfl⟩
  obtain ⟨zv, hzv⟩ : ∃ x, Z v = x := ⟨_, rfl⟩
  have HO : Hid (overE Z ⟨u, v, c⟩ = decide (c + zv < zu)) := hid (by simp only [overE, Int.toNat_natCast, hzu, hzv])
  rw [hzu] at c0' z0
  rw [hzv] at c1' z1
  clear hz hzu hzv
  go_enter Try.func53, Try.ntmps53
  go_upto_region 1 with fail
  obtain ⟨X, hX⟩ : ∃ X, w.heap.size = X := ⟨_, rfl⟩
  rw [hX] at HN ⊢
  generalize w.alloc _ = w4 at *
  have d0 := cell_of_row w4 X 0 _ _ _ HN.out
  have d1 := cell_of_row w4 X 1 _ _ _ HN.out
  have d2 := cell_of_row w4 X 2 _ _ _ HN.out
  simp only [List.getElem?_toArray, List.getElem?_cons_zero, List.getElem?_cons_succ] at d0 d1 d2
  go_region_held3 (fun w' => w'.cell? ⟨X, 0, none⟩ = some (.int .i64 (u : Int)) ∧ w'.cell? ⟨X, 1, none⟩ = some (.int .i64 (v : Int)) ∧ w'.cell? ⟨X, 2, none⟩ = some (.int .i64 c) ∧ w'.cell? ⟨zb, off + u, none⟩ = some (.int .i64 zu) ∧ w'.cell? ⟨zb, off + v, none⟩ = some (.int .i64 zv) ∧ w'.cell? ⟨b, 0, none⟩ = some (.slice (some ⟨zb, off, none⟩) k zc))
    (go_keep)
    (fail)
  go_wp2_with fail
  go_ret
  have hw : IntKind.i64.wrap (c + zv) = c + zv := by rw [IntKind.wrap_i64]; omega
  exact ⟨ret_bool (a := decide (IntKind.i64.wrap (c + zv) < zu)) (by rw [hw, HO.out]), by rw [← hX]; exact HBA.out.drew⟩
def sndOk (m : Nat) (E : Nat → Ed) (to_ : Int) (Z : Nat → Int) : Bool := decide (Z to_.toNat ≤ 0) && !anyP m (fun i => overE Z (E i))
/-- What Sound leaves. -/
def SndP (n : Int) (m : Nat) (E : Nat → Ed) (to_ : Int) (k : Nat) (Z : Nat → Int) : Value :=
  .tuple #[.bool (decide (GErr n m E 1 (fun _ => to_) k Z = 0) && sndOk m E to_ Z), .int .i64 (GErr n m E 1 (fun _ => to_) k Z)]
theorem one_int (x : Int) (w : World) : Ints (w.alloc (.cells #[.int .i64 x] 3)) (some ⟨w.heap.size, 0, none⟩) 1 (fun _ => x) := fun j hj => by
  obtain rfl : j = 0 := by omega
  exact ⟨w.heap.size, 0, rfl, by simp, cell_of_row _ _ 0 _ _ _ (heap_new w _)⟩
set_option maxRecDepth 100000 in
set_option maxHeartbeats 6400000 in
theorem sound_any (n to_ : Int) (eo : Option Addr) (m ec : Nat) (E : Nat → Ed) (hm : m ≤ 1000000) (zo : Option Addr) (k zc : Nat) (Z : Nat → Int) (hk : k ≤ 1000000) (w : World) (hE : Eds w eo m E) (hZ : Ints w zo k Z) :
    Calls Try.prog 28 #[.int .i64 n, .slice eo m ec, .int .i64 to_, .slice zo k zc] w fun e w' => e = .returned (SndP n m E to_ k Z) ∧ Below w.heap.size w w' := by
  obtain ⟨B, hB⟩ : ∃ B, w.heap.size = B := ⟨_, rfl⟩
  have HBW := hid hB
  have HE : Hid (∀ wr, Below B w wr → Eds wr eo m E) := hid (fun wr hb => hE.stays (by rw [hB]; exact hb))
  have HZ : Hid (∀ wr, Below B w wr → Ints wr zo k Z) := hid (fun wr hb => hZ.stays (by rw [hB]; exact hb))
  have hb1 : Below B w ((w.alloc (.cells #[.slice zo k zc] 28)).alloc (.cells #[.int .i64 to_] 3)) := by rw [← hB]; exact Joins.below_alloc2 _ _ _
  have HI := hid (one_int to_ (w.alloc (.cells #[.slice zo k zc] 28)))
  have HX : Hid (((w.alloc (.cells #[.slice zo k zc] 28)).alloc (.cells #[.int .i64 to_] 3)).heap[B]? = some (.cells #[.slice zo k zc] 28 (0, 0))) := hid (by rw [← hB]; exact (Below.heap_alloc _ _ _ (by simp)).trans (heap_new _ _))
  have HB1 := hid hb1
  rw [World.size_alloc, hB] at HI
  rw [hB]
  clear hE hZ hb1
  have h0 := cell_of_row _ B 0 _ _ _ HX.out
  simp only [List.getElem?_toArray, List.getElem?_cons_zero] at h0
  go_enter Try.func28, Try.ntmps28
  go_wp2_with fail
  refine (guess_any n eo m ec E hm (some ⟨B + 1, 0, none⟩) 1 1 (fun _ => to_) (by omega) zo k zc Z hk _ (HE.out _ HB1.out) HI.out (HZ.out _ HB1.out)).mono ?_
  rintro e w2 ⟨rfl, hb2⟩
  have h2 := (hb2.cell (p := ⟨B, 0, none⟩) (heap_lt HX.out)).trans h0
  have HB2 := hid (HB1.out.trans (hb2.mono (by rw [← HBW.out]; exact HB1.out.size)))
  have HP : Hid (∀ b r, (decide (GErr n m E 1 (fun _ => to_) k Z = 0) && sndOk m E to_ Z) = b → GErr n m E 1 (fun _ => to_) k Z = r → SndP n m E to_ k Z = .tuple #[.bool b, .int .i64 r]) := hid (fun b r h h' => by unfold SndP; rw [h, h'])
  have HG : Hid (GErr n m E 1 (fun _ => to_) k Z = 0 → GOk n m E 1 (fun _ => to_) k Z) := hid (fun h => GOk.of h)
  obtain ⟨v, hv⟩ : ∃ v, GErr n m E 1 (fun _ => to_) k Z = v := ⟨_, rfl⟩
  rw [hv] at HP HG ⊢
  clear hb2 HI HB1 HX h0
  by_cases hv0 : v = 0
  · subst hv0
    have hok := HG.out rfl
    obtain ⟨t, ht, htk⟩ := hok.nd 0 (by omega)
    have ht' : to_ = (t : Int) := ht
    clear ht
    subst ht'
    obtain ⟨zb, off, e, hzl, c0⟩ := HZ.out w2 HB2.out t htk
    subst e
    simp only at c0
    have HOK := hid hok
    have HC := hid (fun (W : World) (hW : Below w2.heap.size w2 W) => containsE_any 53 #[.pointer (some ⟨B, 0, none⟩)] (enters_of Try.func53 (by kernel_rfl) rfl) eo m ec E (fun i => overE Z (E i)) hm W (HE.out W (HB2.out.trans (hW.mono (by rw [← HBW.out]; exact HB2.out.size)))) (fun i hi W2 hW2 => by
      obtain ⟨u, v, he, hu, hv, hc1, hc2⟩ := HOK.out.ed i hi
      have hbW : Below w2.heap.size w2 W2 := hW.trans (hW2.mono hW.size)
      have hh := over_any B u v k zc (E i).c (some ⟨zb, off, none⟩) Z hu hv ⟨hc1, hc2⟩ HOK.out.gs W2 ((hbW.cell (p := ⟨B, 0, none⟩) (lt_of_cell h2)).trans h2) (HZ.out W2 (HB2.out.trans (hbW.mono (by rw [← HBW.out]; exact HB2.out.size))))
      rw [← he] at hh
      exact hh))
    by_cases hz0 : Z t ≤ 0
    · obtain ⟨r, hr⟩ : ∃ r, anyP m (fun i => overE Z (E i)) = r := ⟨_, rfl⟩
      rw [hr] at HC
      have HR := hid (HP.out (!r) 0 (by simp only [decide_true, Bool.true_and, sndOk, Int.toNat_natCast, hr, decide_eq_true hz0]) rfl)
      clear hok hr HP
      go_wp2_with fail
      refine (HC.out w2 (Below.refl _ _)).mono ?_
      rintro e w3 ⟨rfl, hb3⟩
      have HB3 := hid (HB2.out.trans (hb3.mono (by rw [← HBW.out]; exact HB2.out.size)))
      clear hb3
      go_wp2_with fail
      go_ret2
      exact ⟨by rw [HR.out]; rfl, HB3.out⟩
    · have HR := hid (HP.out false 0 (by simp only [decide_true, Bool.true_and, sndOk, Int.toNat_natCast, decide_eq_false hz0, Bool.false_and]) rfl)
      have hz0' : 0 < Z t := by omega
      clear hok HP HC
      go_wp2_with fail
      go_ret2
      exact ⟨by rw [HR.out]; rfl, HB2.out⟩
  · have hb0 : (v == 0) = false := by simpa using hv0
    have HR := hid (HP.out false v (by rw [decide_eq_false hv0]; rfl) rfl)
    clear hv HP HG
    go_wp2_with fail
    go_ret2
    exact ⟨by rw [HR.out]; rfl, HB2.out⟩
end Go.Proofs.Ytokpdjdpeaccbaa
