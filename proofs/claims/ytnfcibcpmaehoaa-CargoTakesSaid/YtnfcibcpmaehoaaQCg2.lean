/-
  The walk of ValidateCargoes of the program: names met in a map.
-/
import Derived.Test.YtnfcibcpmaehoaaQCgo
import Derived.Test.YtnfcibcpmaehoaaQPay
import Derived.Test.YtnfcibcpmaehoaaQFun
import Derived.Maps.OwnSet
import Derived.Maps.Views
import Derived.StringKeys
import Derived.Shelf.Abstract
namespace Go.Proofs.Ytnfcibcpmaehoaa
open Go.RowKit Go.Maps Go.WideMaps

theorem keyedS : Keyed Try.prog 9 := string_keyed Try.underlying9
theorem zero4 (w : World) : (zeroValue 4).run Try.prog w = .ok (.bool false) w := by kernel_rfl
theorem key_str {s : ByteArray} (h : s.size ≤ maxLen) : keyOf Try.prog 9 (.string s) = some (.string s.data.toList) := keyOf_string_mk Try.underlying9 h
/-- What the map of the first k names says. -/
def Met (k : Nat) (C : Nat → Cg) (D : DataW Unit) : Prop :=
  ∀ (s : ByteArray), s.size ≤ maxLen → ∃ b : Bool, D.atKey (.string s.data.toList) (.lit (.bool false)) = .lit (.bool b) ∧ (b = true ↔ ∃ i, i < k ∧ (C i).n = s)
/-- The map of the first k names, in the block M. -/
def NS (M k : Nat) (C : Nat → Cg) (wr : World) : Prop := ∃ D : DataW Unit, wr.ownsMap Try.prog 9 (plainElem Try.prog 4) M k D ∧ Met k C D
theorem NS.start (C : Nat → Cg) (w : World) : NS w.heap.size 0 C (w.alloc (.map #[] 0)) :=
  ⟨.map [], World.ownsMap_made _ _ _ _, fun s _ => ⟨false, rfl, ⟨fun h => (by cases h), fun ⟨i, hi, _⟩ => by omega⟩⟩⟩
theorem NS.lt {M k : Nat} {C : Nat → Cg} {wr : World} (h : NS M k C wr) : M < wr.heap.size := by
  obtain ⟨D, h, _⟩ := h
  exact h.lt
theorem NS.stays {M k : Nat} {C : Nat → Cg} {wr w' : World} (h : NS M k C wr) (hb : Below wr.heap.size wr w') : NS M k C w' := by
  have hl := h.lt
  obtain ⟨D, ⟨es, clock, h1, h2⟩, hP⟩ := h
  exact ⟨D, ⟨es, clock, (hb.block M hl).trans h1, h2⟩, hP⟩
set_option maxRecDepth 100000 in
theorem plain_bool {v : Value} {b : Bool} {ps : List MemPlace} (h : plainElem (H := Unit) Try.prog 4 v = some (.lit (.bool b), ps)) : v = .bool b := by
  unfold plainElem at h
  rw [Try.underlying4] at h
  cases v <;> simp at h
  rw [h.1]
theorem NS.look {M k : Nat} {C : Nat → Cg} {wr : World} (h : NS M k C wr) {s : ByteArray} (hs : s.size ≤ maxLen) :
    ∃ b : Bool, (Instr.lookup 64 (.map (some M)) (.string s) false).run Try.prog wr = .ok (.bool b) wr ∧ (b = true ↔ ∃ i, i < k ∧ (C i).n = s) := by
  obtain ⟨D, h, hP⟩ := h
  obtain ⟨b, hb, hbi⟩ := hP s hs
  obtain ⟨v, ps, hrun, hv⟩ := h.lookup keyedS Try.underlying64 (zero4 wr) (plainElem_bool Try.underlying4 false) (key_str hs)
  rw [hb] at hv
  obtain rfl := plain_bool hv
  exact ⟨b, hrun, hbi⟩
theorem Met.put {k : Nat} {C : Nat → Cg} {D : DataW Unit} (h : Met k C D) (hm : IsMap D) (hs : (C k).n.size ≤ maxLen) : Met (k + 1) C (D.put (.string (C k).n.data.toList) (.lit (.bool true))) := by
  intro s hsz
  by_cases e : s = (C k).n
  · subst e
    exact ⟨true, atKey_put_same hm (keyedS.key (key_str hs)) _ _, ⟨fun _ => ⟨k, by omega, rfl⟩, fun _ => rfl⟩⟩
  · obtain ⟨b, hb, hbi⟩ := h s hsz
    refine ⟨b, by rw [atKey_put_other (fun h' => e (Go.WideShapes.bytes_inj (by simpa using h')))]; exact hb, hbi.trans ⟨fun ⟨i, hi, h⟩ => ⟨i, by omega, h⟩, fun ⟨i, hi, h1⟩ => ⟨i, ?_, h1⟩⟩⟩
    by_cases hik : i < k
    · exact hik
    · obtain rfl : i = k := by omega
      exact absurd h1.symm e
theorem wrong_any (c : Cg) (hs : c.n.size ≤ maxLen) (w : World) : Calls Try.prog 47 #[cv c] w fun e w' => e = .returned (.bool (!isC c)) ∧ Below w.heap.size w w' := by
  have HB := hid (Joins.below_alloc1 w (.cells #[.string c.n, .int .i64 c.r, .int .i64 c.f, .int .i64 c.l] 49))
  obtain ⟨q, hq⟩ : ∃ q, isC c = q := ⟨_, rfl⟩
  have HC := hid (fun W => iscargo_any c hs q hq W)
  rw [hq]
  clear hq hs
  go_enter Try.func47, Try.ntmps47
  go_wp2_with fail
  refine (HC.out _).mono ?_
  rintro e w2 ⟨rfl, hb2⟩
  go_wp2_with fail
  go_ret
  exact ⟨rfl, HB.out.trans (hb2.mono (by rw [World.size_alloc]; omega))⟩
set_option maxRecDepth 100000 in
set_option maxHeartbeats 6400000 in
theorem vcargoes_any (co : Option Addr) (m cc : Nat) (C : Nat → Cg) (hs : ∀ j, j < m → (C j).n.size ≤ maxLen) (w : World) (hC : Cgs w co m C) :
    Calls Try.prog 21 #[.slice co m cc] w fun e w' => e = .returned (.int .i64 (CErr m C)) ∧ Below w.heap.size w w' := by
  by_cases hL : 16 < m
  · have hL' : (16 : Int) < (m : Int) := by omega
    have HR : Hid (CErr m C = 4) := hid (by unfold CErr; rw [if_pos hL])
    rw [HR.out]
    clear hC
    go_enter Try.func21, Try.ntmps21
    go_wp2_with fail
    go_ret
    exact ⟨rfl, Below.refl _ _⟩
  have hL' : ¬ (16 : Int) < (m : Int) := by omega
  obtain ⟨r, hr⟩ : ∃ r, CErr m C = r := ⟨_, rfl⟩
  have HV : Hid ((if anyP m (fun i => !isC (C i)) = true then (1 : Int) else if anyP m (dupC C) = true then 3 else 0) = r) := hid (by rw [← hr]; unfold CErr; rw [if_neg hL])
  obtain ⟨B, hB⟩ : ∃ B, w.heap.size = B := ⟨_, rfl⟩
  have HBW := hid hB
  have HC : Hid (∀ wr, Below B w wr → Cgs wr co m C) := hid (fun wr hb => hC.stays (by rw [hB]; exact hb))
  have HSZ := hid hs
  have HCON := hid (containsC_any 47 #[] (enters_of Try.func47 (by kernel_rfl) rfl) co m cc C (fun i => !isC (C i)) (by omega) w hC (fun i hi W hW => wrong_any (C i) (hs i hi) W))
  obtain ⟨q, hq⟩ : ∃ q, anyP m (fun i => !isC (C i)) = q := ⟨_, rfl⟩
  rw [hq] at HCON HV
  have HQ := hid hq
  rw [hr, hB]
  clear hr hB hC hs hq
  have hm2 : m ≤ 16 := by omega
  clear hL
  cases q
  · have HV2 : Hid ((if anyP m (dupC C) = true then (3 : Int) else 0) = r) := hid (by have h := HV.out; rwa [if_neg (by simp)] at h)
    clear HV
    have hmm := @run_makeMap Try.prog
    go_enter Try.func21, Try.ntmps21
    go_wp2_with fail
    refine HCON.out.mono ?_
    rintro e w2 ⟨rfl, hb2⟩
    have HB2 : Hid (Below B w w2) := hid (by rw [← HBW.out]; exact hb2)
    clear hb2 HCON
    have HBZ : Hid (B ≤ w2.heap.size) := hid (by rw [← HBW.out]; exact HB2.out.size)
    have HN0 := hid (NS.start C w2)
    have HB3 := hid (HB2.out.trans (((Below.refl _ w2).alloc (Nat.le_refl _) (.map #[] 0)).mono HBZ.out))
    obtain ⟨M, hM⟩ : ∃ M, w2.heap.size = M := ⟨_, rfl⟩
    rw [hM] at HN0 HBZ
    go_upto_region 7 with fail
    clear hM hmm
    generalize w2.alloc _ = w3 at HN0 HB3 ⊢
    go_wp2_with fail
    go_loopw [18] (fun iv wr => ∃ i : Nat, i ≤ m ∧ iv = .int .i64 i ∧ Hid (NS M i C wr) ∧ Hid ((∀ j, j < i → dupC C j = false) ∧ Below B w wr)) (fun iv _ => m - (intOf iv).toNat)
    case atStart => exact ⟨0, Nat.zero_le _, rfl, HN0, hid ⟨fun j hj => absurd hj (Nat.not_lt_zero _), HB3.out⟩⟩
    case round =>
      clear HN0 HB3
      obtain ⟨i, hi, rfl, HN, HI⟩ := hrel
      by_cases hlt : i < m
      · obtain ⟨b, off, e, hbl, a0, a1, a2, a3⟩ := HC.out wr HI.out.2 i hlt
        subst e
        have hsz := HSZ.out i hlt
        obtain ⟨x, hx⟩ : ∃ x, C i = x := ⟨_, rfl⟩
        rw [hx] at a0 a1 a2 a3 hsz
        have HX := hid hx
        have HSX := hid hsz
        have hBs : B ≤ wr.heap.size := by rw [← HBW.out]; exact HI.out.2.size
        have hb1 : Below wr.heap.size wr (wr.alloc (.cells #[.string x.n, .int .i64 x.r, .int .i64 x.f, .int .i64 x.l] 49)) := (Below.refl _ _).alloc (Nat.le_refl _) _
        have HNN := hid (heap_new wr (.cells #[.string x.n, .int .i64 x.r, .int .i64 x.f, .int .i64 x.l] 49))
        have HB1 := hid (HI.out.2.trans (hb1.mono hBs))
        have HN1 := hid (HN.out.stays hb1)
        have HI0 := hid HI.out.1
        clear hx hb1 HI HN hsz
        obtain ⟨X, hX⟩ : ∃ X, wr.heap.size = X := ⟨_, rfl⟩
        have HBX : Hid (B ≤ X) := hid (by rw [← hX]; exact hBs)
        rw [hX] at HNN
        go_upto_region 10 with fail
        clear a0 a1 a2 a3 hbl hX hBs
        generalize wr.alloc _ = w4 at HNN HB1 HN1 ⊢
        have c0 := cell_of_row _ X 0 _ _ _ HNN.out
        simp only [List.getElem?_toArray, List.getElem?_cons_zero] at c0
        obtain ⟨q, hrun, hq⟩ := HN1.out.look HSX.out
        have HQD : Hid (q = true ↔ ∃ k, k < i ∧ (C k).n = x.n) := hid hq
        clear hq
        cases q
        · have HD := hid (snoc_no HI0.out (show dupC C i = false from anyP_no (fun k hk => decide_eq_false (fun e => by rw [HX.out] at e; have := HQD.out.2 ⟨k, hk, e.symm⟩; cases this))))
          obtain ⟨D, hown, hP⟩ := HN1.out
          have HP := hid hP
          have HO := hid hown
          clear hP hown
          have hne : ¬ X = M := fun e => by
            have h1 := HO.out
            obtain ⟨es, clock, h2, _⟩ := h1
            rw [← e, HNN.out] at h2
            cases h2
          have HZ : Hid (B ≤ w4.heap.size) := hid (by rw [← HBW.out]; exact HB1.out.size)
          go_wp2_with (at_mapUpdate; refine wpList_mapUpdate_own _ rfl _ _ _ 64 rfl 9 4 keyedS Try.underlying64 (plainElem (H := Unit) Try.prog 4) M i D rfl HO.out (by unfold maxLen; omega) _ _ (.string x.n.data.toList) rfl rfl (key_str HSX.out) _ [] (plainElem_bool Try.underlying4 true) ?_; intro w5 hown5 hgrow5)
          have HF := hid (HB1.out.grown hgrow5 HZ.out (fun k hk => by cases hk; exact HBZ.out))
          have HN5 : Hid (NS M (i + 1) C w5) := hid ⟨_, hown5, by have := HP.out.put HO.out.isMap (by rw [HX.out]; exact HSX.out); rw [HX.out] at this; exact this⟩
          clear hown5 hgrow5
          go_roundw
          case rel => exact ⟨i + 1, by omega, by go_num, HN5, hid ⟨HD.out, HF.out⟩⟩
          case measure => simp [intOf]; omega
        · have HR : Hid (r = 3) := hid (by
            obtain ⟨k, hk, e⟩ := HQD.out.1 rfl
            rw [← HV2.out, if_pos (anyP_yes hlt (show dupC C i = true from anyP_yes hk (by rw [HX.out]; exact decide_eq_true e.symm)))])
          go_wp2_with fail
          go_ret
          exact ⟨by rw [HR.out]; rfl, HB1.out⟩
      · obtain rfl : m = i := by omega
        have HR : Hid (r = 0) := hid (by rw [← HV2.out, if_neg (by rw [anyP_no HI.out.1]; simp)])
        go_wp2_with fail
        go_ret
        exact ⟨by rw [HR.out]; rfl, HI.out.2⟩
  · have HR : Hid (r = 1) := hid (by have h := HV.out; rw [if_pos rfl] at h; exact h.symm)
    clear HV
    go_enter Try.func21, Try.ntmps21
    go_wp2_with fail
    refine HCON.out.mono ?_
    rintro e w2 ⟨rfl, hb2⟩
    go_wp2_with fail
    go_ret
    exact ⟨by rw [HR.out]; rfl, by rw [← HBW.out]; exact hb2⟩
end Go.Proofs.Ytnfcibcpmaehoaa
