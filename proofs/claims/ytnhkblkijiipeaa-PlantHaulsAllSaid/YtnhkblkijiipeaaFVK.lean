/-
  The walks of ValidateKinds, of the program and of the reference.
-/
import Derived.Test.YtnhkblkijiipeaaFRKnd
import Derived.Maps.OwnSet
import Derived.Maps.Views
import Derived.StringKeys
import Derived.Shelf.Abstract
namespace Go.Proofs.Ytnhkblkijiipeaa
open Go.RowKit Go.Maps Go.WideMaps

theorem str_ne {s t : ByteArray} (h : ¬ s = t) : (s.toList == t.toList) = false := by
  have : ¬ s.toList = t.toList := fun e => h (Go.WideShapes.bytes_inj (by rw [← ByteArray.toList_eq, ← ByteArray.toList_eq]; exact e))
  simpa using this
/-- What is asked of the sizes of kinds. -/
structure Small (m : Nat) (K : Nat → Kd) : Prop where
  nm : ∀ j, j < m → (K j).nm.size ≤ maxLen
  tn : ∀ j, j < m → (K j).tn ≤ 1000
  mn : ∀ j, j < m → (K j).mn ≤ 1000
theorem kat {w : World} {ko : Option Addr} {m : Nat} {K : Nat → Kd} (h : Kds w ko m K) {j : Nat} (hj : j < m) : ∃ b off : Nat, ko = some ⟨b, off, none⟩ ∧ b < w.heap.size ∧
  w.cell? ⟨b, off + j * 3, none⟩ = some (.string (K j).nm) ∧ w.cell? ⟨b, off + j * 3 + 1, none⟩ = some (.slice (K j).ta (K j).tn (K j).tc) ∧ w.cell? ⟨b, off + j * 3 + 2, none⟩ = some (.slice (K j).ma (K j).mn (K j).mc) := (h j hj).1
theorem keyedS : Keyed Try.prog 9 := string_keyed Try.underlying9
theorem zero4 (w : World) : (zeroValue 4).run Try.prog w = .ok (.bool false) w := by kernel_rfl
theorem key_str {s : ByteArray} (h : s.size ≤ maxLen) : keyOf Try.prog 9 (.string s) = some (.string s.data.toList) := keyOf_string_mk Try.underlying9 h
/-- What the map of the first k names says. -/
def Met (k : Nat) (K : Nat → Kd) (D : DataW Unit) : Prop :=
  ∀ (s : ByteArray), s.size ≤ maxLen → ∃ b : Bool, D.atKey (.string s.data.toList) (.lit (.bool false)) = .lit (.bool b) ∧ (b = true ↔ ∃ i, i < k ∧ (K i).nm = s)
/-- The map of the first k names, in the block M. -/
def NS (M k : Nat) (K : Nat → Kd) (wr : World) : Prop := ∃ D : DataW Unit, wr.ownsMap Try.prog 9 (plainElem Try.prog 4) M k D ∧ Met k K D
theorem NS.start (K : Nat → Kd) (w : World) : NS w.heap.size 0 K (w.alloc (.map #[] 0)) :=
  ⟨.map [], World.ownsMap_made _ _ _ _, fun s _ => ⟨false, rfl, ⟨fun h => (by cases h), fun ⟨i, hi, _⟩ => by omega⟩⟩⟩
theorem NS.lt {M k : Nat} {K : Nat → Kd} {wr : World} (h : NS M k K wr) : M < wr.heap.size := by
  obtain ⟨D, h, _⟩ := h
  exact h.lt
theorem NS.stays {M k : Nat} {K : Nat → Kd} {wr w' : World} (h : NS M k K wr) (hb : Below wr.heap.size wr w') : NS M k K w' := by
  have hl := h.lt
  obtain ⟨D, ⟨es, clock, h1, h2⟩, hP⟩ := h
  exact ⟨D, ⟨es, clock, (hb.block M hl).trans h1, h2⟩, hP⟩
set_option maxRecDepth 100000 in
theorem plain_bool {v : Value} {b : Bool} {ps : List MemPlace} (h : plainElem (H := Unit) Try.prog 4 v = some (.lit (.bool b), ps)) : v = .bool b := by
  unfold plainElem at h
  rw [Try.underlying4] at h
  cases v <;> simp at h
  rw [h.1]
theorem NS.look {M k : Nat} {K : Nat → Kd} {wr : World} (h : NS M k K wr) {s : ByteArray} (hs : s.size ≤ maxLen) :
    ∃ b : Bool, (Instr.lookup 76 (.map (some M)) (.string s) false).run Try.prog wr = .ok (.bool b) wr ∧ (b = true ↔ ∃ i, i < k ∧ (K i).nm = s) := by
  obtain ⟨D, h, hP⟩ := h
  obtain ⟨b, hb, hbi⟩ := hP s hs
  obtain ⟨v, ps, hrun, hv⟩ := h.lookup keyedS Try.underlying76 (zero4 wr) (plainElem_bool Try.underlying4 false) (key_str hs)
  rw [hb] at hv
  obtain rfl := plain_bool hv
  exact ⟨b, hrun, hbi⟩
theorem Met.put {k : Nat} {K : Nat → Kd} {D : DataW Unit} (h : Met k K D) (hm : IsMap D) (hs : (K k).nm.size ≤ maxLen) : Met (k + 1) K (D.put (.string (K k).nm.data.toList) (.lit (.bool true))) := by
  intro s hsz
  by_cases e : s = (K k).nm
  · subst e
    exact ⟨true, atKey_put_same hm (keyedS.key (key_str hs)) _ _, ⟨fun _ => ⟨k, by omega, rfl⟩, fun _ => rfl⟩⟩
  · obtain ⟨b, hb, hbi⟩ := h s hsz
    refine ⟨b, by rw [atKey_put_other (fun h' => e (Go.WideShapes.bytes_inj (by simpa using h')))]; exact hb, hbi.trans ⟨fun ⟨i, hi, h⟩ => ⟨i, by omega, h⟩, fun ⟨i, hi, h1⟩ => ⟨i, ?_, h1⟩⟩⟩
    by_cases hik : i < k
    · exact hik
    · obtain rfl : i = k := by omega
      exact absurd h1.symm e
theorem wrong_any (k : Kd) (htn : k.tn ≤ 1000) (hmn : k.mn ≤ 1000) (hs : k.nm.size ≤ maxLen) (w : World) (h : KdAt w k) : Calls Try.prog 57 #[kv k] w fun e w' => e = .returned (.bool (!okK k)) ∧ Below w.heap.size w w' := by
  have H0 := hid (KB.start h)
  obtain ⟨q, hq⟩ : ∃ q, okK k = q := ⟨_, rfl⟩
  have HC := hid (fun W h => iskind_any k htn hmn hs q hq W h)
  rw [hq]
  obtain ⟨nm, ta, tn, tc, T, ma, mn, mc, C, A⟩ := k
  show Calls _ _ #[.agg #[.string nm, .slice ta tn tc, .slice ma mn mc]] w _
  clear hq hs htn hmn h
  obtain ⟨B, hB⟩ : ∃ B, w.heap.size = B := ⟨_, rfl⟩
  rw [hB] at H0 ⊢
  go_enter Try.func57, Try.ntmps57
  go_upto_region 1 with fail
  generalize World.alloc w _ = w1 at H0 ⊢
  have c0 := H0.out.c0; have c1 := H0.out.c1; have c2 := H0.out.c2
  go_wp2_with (go_at_call 58; refine (HC.out _ H0.out.lists).mono ?_; rintro e w2 ⟨rfl, hb2⟩; have H1 := hid (H0.out.stays hb2); clear hb2)
  go_ret
  exact ⟨rfl, H1.out.below⟩
set_option maxRecDepth 100000 in
set_option maxHeartbeats 6400000 in
theorem vkinds_any (ko : Option Addr) (m kc : Nat) (K : Nat → Kd) (hs : Small m K) (w : World) (hK : Kds w ko m K) :
    Calls Try.prog 33 #[.slice ko m kc] w fun e w' => e = .returned (.int .i64 (KErr m K)) ∧ Below w.heap.size w w' := by
  by_cases hL : 16 < m
  · have hL' : (16 : Int) < (m : Int) := by omega
    have HR : Hid (KErr m K = 4) := hid (by unfold KErr; rw [if_pos hL])
    rw [HR.out]
    clear hK
    go_enter Try.func33, Try.ntmps33
    go_wp2_with fail
    go_ret
    exact ⟨rfl, Below.refl _ _⟩
  have hL' : ¬ (16 : Int) < (m : Int) := by omega
  obtain ⟨r, hr⟩ : ∃ r, KErr m K = r := ⟨_, rfl⟩
  have HV : Hid ((if anyP m (fun i => !okK (K i)) = true then (1 : Int) else if anyP m (dupK K) = true then 3 else 0) = r) := hid (by rw [← hr]; unfold KErr; rw [if_neg hL])
  obtain ⟨B, hB⟩ : ∃ B, w.heap.size = B := ⟨_, rfl⟩
  have HBW := hid hB
  have HC : Hid (∀ wr, Below B w wr → Kds wr ko m K) := hid (fun wr hb => hK.stays (by rw [hB]; exact hb))
  have HSZ := hid hs
  have HCON := hid (containsK_any 57 #[] (enters_of Try.func57 (by kernel_rfl) rfl) ko m kc K (fun i => !okK (K i)) (by omega) w hK (fun i hi W hW => wrong_any (K i) (hs.tn i hi) (hs.mn i hi) (hs.nm i hi) W (hK.stays hW i hi).2))
  obtain ⟨q, hq⟩ : ∃ q, anyP m (fun i => !okK (K i)) = q := ⟨_, rfl⟩
  rw [hq] at HCON HV
  have HQ := hid hq
  rw [hr, hB]
  clear hr hB hK hs hq
  have hm2 : m ≤ 16 := by omega
  clear hL
  cases q
  · have HV2 : Hid ((if anyP m (dupK K) = true then (3 : Int) else 0) = r) := hid (by have h := HV.out; rwa [if_neg (by simp)] at h)
    clear HV
    have hmm := @run_makeMap Try.prog
    go_enter Try.func33, Try.ntmps33
    go_wp2_with fail
    refine HCON.out.mono ?_
    rintro e w2 ⟨rfl, hb2⟩
    have HB2 : Hid (Below B w w2) := hid (by rw [← HBW.out]; exact hb2)
    clear hb2 HCON
    have HBZ : Hid (B ≤ w2.heap.size) := hid (by rw [← HBW.out]; exact HB2.out.size)
    have HN0 := hid (NS.start K w2)
    have HB3 := hid (HB2.out.trans (((Below.refl _ w2).alloc (Nat.le_refl _) (.map #[] 0)).mono HBZ.out))
    obtain ⟨M, hM⟩ : ∃ M, w2.heap.size = M := ⟨_, rfl⟩
    rw [hM] at HN0 HBZ
    go_upto_region 7 with fail
    clear hM hmm
    generalize w2.alloc _ = w3 at HN0 HB3 ⊢
    go_wp2_with fail
    go_loopw [18] (fun iv wr => ∃ i : Nat, i ≤ m ∧ iv = .int .i64 i ∧ Hid (NS M i K wr) ∧ Hid ((∀ j, j < i → dupK K j = false) ∧ Below B w wr)) (fun iv _ => m - (intOf iv).toNat)
    case atStart => exact ⟨0, Nat.zero_le _, rfl, HN0, hid ⟨fun j hj => absurd hj (Nat.not_lt_zero _), HB3.out⟩⟩
    case round =>
      clear HN0 HB3
      obtain ⟨i, hi, rfl, HN, HI⟩ := hrel
      by_cases hlt : i < m
      · obtain ⟨b, off, e, hbl, a0, a1, a2⟩ := kat (HC.out wr HI.out.2) hlt
        subst e
        have hsz := HSZ.out.nm i hlt
        obtain ⟨x, hx⟩ : ∃ x, K i = x := ⟨_, rfl⟩
        rw [hx] at a0 a1 a2 hsz
        have HX := hid hx
        have HSX := hid hsz
        have hBs : B ≤ wr.heap.size := by rw [← HBW.out]; exact HI.out.2.size
        have hb1 : Below wr.heap.size wr (wr.alloc (.cells #[.string x.nm, .slice x.ta x.tn x.tc, .slice x.ma x.mn x.mc] 40)) := (Below.refl _ _).alloc (Nat.le_refl _) _
        have HNN := hid (heap_new wr (.cells #[.string x.nm, .slice x.ta x.tn x.tc, .slice x.ma x.mn x.mc] 40))
        have HB1 := hid (HI.out.2.trans (hb1.mono hBs))
        have HN1 := hid (HN.out.stays hb1)
        have HI0 := hid HI.out.1
        clear hx hb1 HI HN hsz
        obtain ⟨X, hX⟩ : ∃ X, wr.heap.size = X := ⟨_, rfl⟩
        have HBX : Hid (B ≤ X) := hid (by rw [← hX]; exact hBs)
        rw [hX] at HNN
        go_upto_region 10 with fail
        clear a0 a1 a2 hbl hX hBs
        generalize wr.alloc _ = w4 at HNN HB1 HN1 ⊢
        have c0 := cell_of_row _ X 0 _ _ _ HNN.out
        simp only [List.getElem?_toArray, List.getElem?_cons_zero] at c0
        obtain ⟨q, hrun, hq⟩ := HN1.out.look HSX.out
        have HQD : Hid (q = true ↔ ∃ k, k < i ∧ (K k).nm = x.nm) := hid hq
        clear hq
        cases q
        · have HD := hid (snoc_no HI0.out (show dupK K i = false from anyP_no (fun k hk => decide_eq_false (fun e => by rw [HX.out] at e; have := HQD.out.2 ⟨k, hk, e.symm⟩; cases this))))
          obtain ⟨D, hown, hP⟩ := HN1.out
          have HP := hid hP
          have HO := hid hown
          clear hP hown
          have hne : ¬ X = M := fun e => by
            have h1 := HO.out
            obtain ⟨es, clock, h2, _⟩ := h1
            rw [← e, HNN.out] at h2
            cases h2
          have HZ : Hid (B ≤ w4.heap.size) := hid (by rw [← HBW.out]; exact HB1.out.size)
          go_wp2_with (at_mapUpdate; refine wpList_mapUpdate_own _ rfl _ _ _ 76 rfl 9 4 keyedS Try.underlying76 (plainElem (H := Unit) Try.prog 4) M i D rfl HO.out (by unfold maxLen; omega) _ _ (.string x.nm.data.toList) rfl rfl (key_str HSX.out) _ [] (plainElem_bool Try.underlying4 true) ?_; intro w5 hown5 hgrow5)
          have HF := hid (HB1.out.grown hgrow5 HZ.out (fun k hk => by cases hk; exact HBZ.out))
          have HN5 : Hid (NS M (i + 1) K w5) := hid ⟨_, hown5, by have := HP.out.put HO.out.isMap (by rw [HX.out]; exact HSX.out); rw [HX.out] at this; exact this⟩
          clear hown5 hgrow5
          go_roundw
          case rel => exact ⟨i + 1, by omega, by go_num, HN5, hid ⟨HD.out, HF.out⟩⟩
          case measure => simp [intOf]; omega
        · have HR : Hid (r = 3) := hid (by
            obtain ⟨k, hk, e⟩ := HQD.out.1 rfl
            rw [← HV2.out, if_pos (anyP_yes hlt (show dupK K i = true from anyP_yes hk (by rw [HX.out]; exact decide_eq_true e.symm)))])
          go_wp2_with fail
          go_ret
          exact ⟨by rw [HR.out]; rfl, HB1.out⟩
      · obtain rfl : m = i := by omega
        have HR : Hid (r = 0) := hid (by rw [← HV2.out, if_neg (by rw [anyP_no HI.out.1]; simp)])
        go_wp2_with fail
        go_ret
        exact ⟨by rw [HR.out]; rfl, HI.out.2⟩
  · have HR : Hid (r = 1) := hid (by have h := HV.out; rw [if_pos rfl] at h; exact h.symm)
    clear HV
    go_enter Try.func33, Try.ntmps33
    go_wp2_with fail
    refine HCON.out.mono ?_
    rintro e w2 ⟨rfl, hb2⟩
    go_wp2_with fail
    go_ret
    exact ⟨by rw [HR.out]; rfl, by rw [← HBW.out]; exact hb2⟩
end Go.Proofs.Ytnhkblkijiipeaa
