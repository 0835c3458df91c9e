/-
  The walks of what looks at numbers and names: within, isCargo, isName (strings.ContainsFunc), the reference's within and Named.
-/
import Derived.Test.YtnhkblkijiipeaaFPar
import Derived.Laws.RangeAny
import Derived.Lib.OthersKept
import Derived.Shelf.Abstract
namespace Go.Proofs.Ytnhkblkijiipeaa
open Go.RowKit

theorem within_any (a n b : Int) (q : Bool) (h : inB a n b = q) (w : World) : Calls Try.prog 34 #[.int .i64 a, .int .i64 n, .int .i64 b] w fun e w' => e = .returned (.bool q) ∧ w = w' := by
  have HH := hid h
  clear h
  by_cases h : a ≤ n
  · go_enter Try.func34, Try.ntmps34
    go_wp2_with fail
    go_ret
    exact ⟨ret_bool (a := decide (n ≤ b)) (by rw [← HH.out]; unfold inB; rw [decide_eq_true h]; rfl), rfl⟩
  · have HQ : Hid (q = false) := hid (by rw [← HH.out]; unfold inB; rw [decide_eq_false h]; rfl)
    go_enter Try.func34, Try.ntmps34
    go_wp2_with fail
    go_ret
    exact ⟨by rw [HQ.out]; rfl, rfl⟩
theorem rwithin_any (a n b : Int) (q : Bool) (h : inB a n b = q) (w : World) : Calls Try.prog 37 #[.int .i64 n, .int .i64 a, .int .i64 b] w fun e w' => e = .returned (.bool q) ∧ w = w' := by
  have HH := hid h
  clear h
  by_cases h : a ≤ n
  · go_enter Try.func37, Try.ntmps37
    go_wp2_with fail
    go_ret
    exact ⟨ret_bool (a := decide (n ≤ b)) (by rw [← HH.out]; unfold inB; rw [decide_eq_true h]; rfl), rfl⟩
  · have HQ : Hid (q = false) := hid (by rw [← HH.out]; unfold inB; rw [decide_eq_false h]; rfl)
    go_enter Try.func37, Try.ntmps37
    go_wp2_with fail
    go_ret
    exact ⟨by rw [HQ.out]; rfl, rfl⟩
theorem iscargo_any (n : Int) (q : Bool) (h : inB 0 n 15 = q) (w : World) : Calls Try.prog 56 #[.int .i64 n] w fun e w' => e = .returned (.bool q) ∧ w = w' := by
  have HH := hid h
  clear h
  go_enter Try.func56, Try.ntmps56
  go_wp2_with (go_at_call 34; refine (within_any 0 n 15 q HH.out _).mono ?_; rintro e w' ⟨rfl, rfl⟩)
  go_ret
  exact ⟨rfl, rfl⟩
def okCh (s : ByteArray) (i : Nat) : Bool := decide (97 ≤ (s.data.getD i 0).toNat) && decide ((s.data.getD i 0).toNat ≤ 122)
theorem isNm_yes {s : ByteArray} (h1 : 1 ≤ s.size) (h2 : s.size ≤ 12) (h : ∀ j, j < s.size → okCh s j = true) : isNm s = true := by
  unfold isNm
  rw [decide_eq_true h1, decide_eq_true h2, Bool.true_and, Bool.true_and, List.all_eq_true]
  exact fun i hi => h i (by simpa using hi)
theorem isNm_no {s : ByteArray} {j : Nat} (hj : j < s.size) (h : okCh s j = false) : isNm s = false := by
  cases hn : isNm s
  · rfl
  · unfold isNm at hn
    rw [Bool.and_eq_true, List.all_eq_true] at hn
    have := hn.2 j (by simpa using hj)
    rw [show (decide (97 ≤ (s.data.getD j 0).toNat) && decide ((s.data.getD j 0).toNat ≤ 122)) = okCh s j from rfl, h] at this
    cases this
theorem okCh_at {s : ByteArray} {k : Nat} (h : k < s.size) : okCh s k = (decide ((97 : Int) ≤ (s[k].toNat : Int)) && decide ((s[k].toNat : Int) ≤ 122)) := by
  unfold okCh
  have e : s.data.getD k 0 = s[k] := by
    rw [Array.getD_eq_getD_getElem?, Array.getElem?_eq_getElem (by exact h)]
    rfl
  rw [e]
  congr 1 <;> exact decide_eq_decide.2 (by omega)
theorem chr_wrap {s : ByteArray} {k : Nat} (h : k < s.size) : IntKind.i64.wrap (s[k].toNat : Int) = (s[k].toNat : Int) := by
  have : s[k].toNat < 256 := s[k].toNat_lt
  rw [IntKind.wrap_i64]; omega
theorem okCh_high {s : ByteArray} {k : Nat} (h : k < s.size) (ha : 128 ≤ (s[k]'h).toNat) : okCh s k = false := by
  rw [okCh_at h, decide_eq_false (show ¬ ((s[k].toNat : Int) ≤ 122) by omega), Bool.and_false]
theorem other_any (n : Nat) (q : Bool) (h : (decide (n < 97) || decide (122 < n)) = q) (w : World) : Calls Try.prog 73 #[.int .i32 (n : Int)] w fun e w' => e = .returned (.bool q) ∧ w = w' := by
  have HH := hid h
  clear h
  by_cases h : (n : Int) < 97
  · have HQ : Hid (q = true) := hid (by rw [← HH.out, decide_eq_true (show n < 97 by omega)]; rfl)
    go_enter Try.func73, Try.ntmps73
    go_wp2_with fail
    go_ret
    exact ⟨by rw [HQ.out]; rfl, rfl⟩
  · have HD := hid (show decide ((122 : Int) < (n : Int)) = q by rw [← HH.out, decide_eq_false (show ¬ n < 97 by omega), Bool.false_or]; exact decide_eq_decide.2 (by omega))
    go_enter Try.func73, Try.ntmps73
    go_wp2_with fail
    go_ret
    exact ⟨ret_bool (a := decide ((122 : Int) < (n : Int))) HD.out, rfl⟩
/-- Where the first letter stands that is none. -/
def SIx (s : ByteArray) (r : Int) : Prop := (∃ k : Nat, k < s.size ∧ okCh s k = false ∧ r = k) ∨ ((∀ j, j < s.size → okCh s j = true) ∧ r = -1)
def SIxPost (s : ByteArray) (w : World) (e : Ending) (w' : World) : Prop := ∃ r, SIx s r ∧ e = .returned (.int .i64 r) ∧ Below w.heap.size w w'
set_option maxRecDepth 100000 in
set_option maxHeartbeats 3200000 in
theorem sindex_any (s : ByteArray) (w : World) : Calls Try.prog 78 #[.string s, .func (.func 73) #[] #[], .bool true] w (SIxPost s w) := by
  obtain ⟨B, hB⟩ : ∃ B, w.heap.size = B := ⟨_, rfl⟩
  have HBW := hid hB
  unfold SIxPost
  rw [hB]
  have e0 : ∀ args w, (callFunc 73 args).run Try.prog w = .ok (.enter 73 args) w := enters_of Try.func73 (by kernel_rfl) rfl
  go_enter Try.func78, Try.ntmps78
  rw [← hB]
  clear hB
  go_wp2
  go_loopg [] s.size (fun gf wx => ∃ pos : Nat, wx.heap[w.heap.size]? = some (.stringIter s pos) ∧ Below w.heap.size w wx ∧ Hid (∀ j, j < pos → okCh s j = true) ∧ pos ≤ s.size ∧ s.size ≤ pos + gf)
  case atStart => exact ⟨0, World.iter_heap w s 0, (Below.refl _ w).alloc (Nat.le_refl _) _, hid (fun j hj => by omega), Nat.zero_le _, by omega⟩
  case round =>
    obtain ⟨pos, hit, hbw, HP, hp1, hfu⟩ := hrel
    by_cases hps : pos < s.size
    · obtain ⟨g', rfl⟩ : ∃ g', gk = g' + 1 := ⟨gk - 1, by omega⟩
      by_cases ha : (s[pos]'hps).toNat < 128
      · have hnx : ∀ ty, (Instr.next (.pointer (some ⟨w.heap.size, 0, none⟩)) true ty).run Try.prog wr = _ := fun ty => Lib.run_next_ascii_at wr w.heap.size s pos ty hit hps ha
        have hit2 := Lib.iterAt_heap wr w.heap.size s pos (pos + 1) hit
        have hbw2 := Lib.below_iterAt hbw (k := w.heap.size) (Nat.le_refl _) s (pos + 1)
        have HOK := hid (okCh_at hps)
        obtain ⟨R, hR⟩ : ∃ R, (s[pos]'hps).toNat = R := ⟨_, rfl⟩
        rw [hR] at hnx HOK
        obtain ⟨W, hWd⟩ : ∃ W, wr.iterAt w.heap.size s (pos + 1) = W := ⟨_, rfl⟩
        rw [hWd] at hnx hit2 hbw2
        have HI2 := hid hit2
        have HB2 := hid hbw2
        clear hit2 hbw2 hWd hR ha hit hbw
        cases hq : (decide (R < 97) || decide (122 < R))
        · have HC := hid hq
          have HN : Hid (∀ j, j < pos + 1 → okCh s j = true) := hid (fun j hj => by
            by_cases e : j = pos
            · subst e
              rw [HOK.out]
              simp only [Bool.or_eq_false_iff, decide_eq_false_iff_not] at hq
              rw [decide_eq_true (by omega), decide_eq_true (by omega)]; rfl
            · exact HP.out j (by omega))
          clear hq
          go_wp2_with fail
          refine (other_any R false HC.out _).mono ?_
          rintro e w' ⟨rfl, rfl⟩
          go_wp2_with fail
          go_roundg g'
          case measure => omega
          case rel => exact ⟨pos + 1, HI2.out, HB2.out, HN, by omega, by omega⟩
        · have HC := hid hq
          have HN : Hid (okCh s pos = false) := hid (by
            rw [HOK.out]
            simp only [Bool.or_eq_true, decide_eq_true_eq] at hq
            rcases hq with h | h
            · rw [decide_eq_false (show ¬ (97 : Int) ≤ (R : Int) by omega)]; rfl
            · rw [decide_eq_false (show ¬ (R : Int) ≤ 122 by omega), Bool.and_false])
          clear hq
          go_wp2_with fail
          refine (other_any R true HC.out _).mono ?_
          rintro e w' ⟨rfl, rfl⟩
          go_wp2_with fail
          go_ret
          exact ⟨_, .inl ⟨pos, hps, HN.out, rfl⟩, rfl, HB2.out⟩
      · have HN := hid (okCh_high hps (by omega))
        have hnx : ∀ ty, (Instr.next (.pointer (some ⟨w.heap.size, 0, none⟩)) true ty).run Try.prog wr = _ := fun ty => Lib.run_next_any_at wr w.heap.size s pos ty hit hps
        have hR1 := (decode_high s pos hps (by omega)).1
        obtain ⟨R, hR⟩ : ∃ R, (Utf8.decode s pos).1 = R := ⟨_, rfl⟩
        obtain ⟨K, hK⟩ : ∃ K, (Utf8.decode s pos).2 = K := ⟨_, rfl⟩
        rw [hR, hK] at hnx
        rw [hR] at hR1
        have hbw2 := Lib.below_iterAt hbw (k := w.heap.size) (Nat.le_refl _) s (pos + K)
        obtain ⟨W, hWd⟩ : ∃ W, wr.iterAt w.heap.size s (pos + K) = W := ⟨_, rfl⟩
        rw [hWd] at hnx hbw2
        have HB2 := hid hbw2
        have HC : Hid ((decide (R < 97) || decide (122 < R)) = true) := hid (by rw [decide_eq_true (show 122 < R by omega), Bool.or_true])
        clear hbw2 hWd hR hK ha hit hbw hR1
        go_wp2_with fail
        refine (other_any R true HC.out _).mono ?_
        rintro e w' ⟨rfl, rfl⟩
        go_wp2_with fail
        go_ret
        exact ⟨_, .inl ⟨pos, hps, HN.out, rfl⟩, rfl, HB2.out⟩
    · obtain rfl : pos = s.size := by omega
      have hnx : ∀ ty, (Instr.next (.pointer (some ⟨w.heap.size, 0, none⟩)) true ty).run Try.prog wr = _ := fun ty => Lib.run_next_end_at wr w.heap.size s s.size ty hit hps
      go_wp2
      go_ret
      exact ⟨_, .inr ⟨HP.out, rfl⟩, rfl, hbw⟩
theorem sfirst_any (s : ByteArray) (w : World) : Calls Try.prog 77 #[.string s, .func (.func 73) #[] #[]] w (SIxPost s w) := by
  go_enter Try.func77, Try.ntmps77
  go_wp2_with (go_at_call 78; refine (sindex_any s _).mono ?_; rintro e w' ⟨r, hr, rfl, hb⟩)
  go_ret
  exact ⟨r, hr, rfl, hb⟩
theorem SIx.any {s : ByteArray} {r : Int} (h : SIx s r) : decide (0 ≤ r) = !(List.range s.size).all (okCh s) := by
  rcases h with ⟨k, hk, hn, rfl⟩ | ⟨h, rfl⟩
  · cases ha : (List.range s.size).all (okCh s)
    · simp
    · rw [List.all_eq_true] at ha
      rw [ha k (by simpa using hk)] at hn; cases hn
  · rw [List.all_eq_true.2 (fun i hi => h i (by simpa using hi))]; rfl
theorem scontains_any (s : ByteArray) (w : World) : Calls Try.prog 74 #[.string s, .func (.func 73) #[] #[]] w fun e w' => e = .returned (.bool (!(List.range s.size).all (okCh s))) ∧ Below w.heap.size w w' := by
  go_enter Try.func74, Try.ntmps74
  go_wp2_with (go_at_call 77; refine (sfirst_any s _).mono ?_; rintro e w' ⟨r, hr, rfl, hb⟩)
  have HR := hid hr
  clear hr
  go_wp2_with fail
  go_ret
  exact ⟨ret_bool (a := decide (0 ≤ r)) HR.out.any, hb⟩
set_option maxHeartbeats 1600000 in
theorem isname_any (s : ByteArray) (hs : s.size ≤ maxLen) (q : Bool) (hq0 : isNm s = q) (w : World) : Calls Try.prog 66 #[.string s] w fun e w' => e = .returned (.bool q) ∧ Below w.heap.size w w' := by
  unfold maxLen at hs
  have HR := hid hq0
  clear hq0
  obtain ⟨t, ht⟩ : ∃ t, (List.range s.size).all (okCh s) = t := ⟨_, rfl⟩
  have HT := hid ht
  cases hq : inB 1 s.size 12
  · have HQ : Hid (q = false) := hid (by
      rw [← HR.out]
      unfold isNm
      rw [show (decide (1 ≤ s.size) && decide (s.size ≤ 12)) = inB 1 s.size 12 by unfold inB; congr 1 <;> exact decide_eq_decide.2 (by omega), hq]
      rfl)
    have HN := hid hq
    clear hq ht
    go_enter Try.func66, Try.ntmps66
    go_wp2_with (go_at_call 34; refine (within_any 1 s.size 12 false HN.out _).mono ?_; rintro e w' ⟨rfl, rfl⟩)
    go_ret
    exact ⟨by rw [HQ.out]; rfl, Below.refl _ _⟩
  · have HQ : Hid (q = t) := hid (by
      rw [← HR.out, ← HT.out]
      unfold isNm
      rw [show (decide (1 ≤ s.size) && decide (s.size ≤ 12)) = inB 1 s.size 12 by unfold inB; congr 1 <;> exact decide_eq_decide.2 (by omega), hq]
      rfl)
    have HN := hid hq
    have HC := hid (fun W => scontains_any s W)
    rw [ht] at HC
    clear hq ht
    go_enter Try.func66, Try.ntmps66
    go_wp2_with (first
      | (go_at_call 34; refine (within_any 1 s.size 12 true HN.out _).mono ?_; rintro e w' ⟨rfl, rfl⟩)
      | (go_at_call 74; refine (HC.out _).mono ?_; rintro e w' ⟨rfl, hb⟩))
    go_ret
    exact ⟨by rw [HQ.out]; cases t <;> rfl, hb⟩
set_option maxHeartbeats 1600000 in
theorem named_any (s : ByteArray) (hs : s.size ≤ maxLen) (q : Bool) (hq0 : isNm s = q) (w : World) : Calls Try.prog 72 #[.string s] w fun e w' => e = .returned (.bool q) ∧ w = w' := by
  unfold maxLen at hs
  have HR := hid hq0
  clear hq0
  by_cases h1 : (s.size : Int) < 1
  · have HQ : Hid (q = false) := hid (by rw [← HR.out]; unfold isNm; rw [decide_eq_false (by omega)]; rfl)
    go_enter Try.func72, Try.ntmps72
    go_wp2_with fail
    go_ret
    exact ⟨by rw [HQ.out]; rfl, rfl⟩
  by_cases h2 : (12 : Int) < (s.size : Int)
  · have HQ : Hid (q = false) := hid (by rw [← HR.out]; unfold isNm; rw [decide_eq_false (show ¬ s.size ≤ 12 by omega), Bool.and_false]; rfl)
    go_enter Try.func72, Try.ntmps72
    go_wp2_with fail
    go_ret
    exact ⟨by rw [HQ.out]; rfl, rfl⟩
  have HB : Hid (1 ≤ s.size ∧ s.size ≤ 12) := hid (by omega)
  go_enter Try.func72, Try.ntmps72
  go_wp2_with fail
  go_loop [3] (fun i => ∃ k : Nat, k ≤ s.size ∧ i = .int .i64 k ∧ Hid (∀ j, j < k → okCh s j = true)) (fun i => s.size - (intOf i).toNat)
  case atStart => exact ⟨0, Nat.zero_le _, rfl, hid (fun j hj => absurd hj (Nat.not_lt_zero _))⟩
  case round =>
    obtain ⟨k, hk, rfl, HK⟩ := hrel
    by_cases hlt : k < s.size
    · have HO := hid (okCh_at hlt)
      by_cases c1 : (s[k].toNat : Int) < 97
      · have HQ : Hid (q = false) := hid (by rw [← HR.out]; exact isNm_no hlt (by rw [HO.out, decide_eq_false (by omega)]; rfl))
        go_wp2_with fail
        go_ret
        exact ⟨by rw [HQ.out]; rfl, rfl⟩
      by_cases c2 : (122 : Int) < (s[k].toNat : Int)
      · have HQ : Hid (q = false) := hid (by rw [← HR.out]; exact isNm_no hlt (by rw [HO.out, decide_eq_false (show ¬ (s[k].toNat : Int) ≤ 122 by omega), Bool.and_false]))
        go_wp2_with fail
        go_ret
        exact ⟨by rw [HQ.out]; rfl, rfl⟩
      · have HK2 : Hid (∀ j, j < k + 1 → okCh s j = true) := hid (fun j hj => by
            by_cases e : j = k
            · subst e; rw [HO.out, decide_eq_true (by omega), decide_eq_true (by omega)]; rfl
            · exact HK.out j (by omega))
        go_wp2_with fail
        go_round
        case rel => exact ⟨k + 1, by omega, by go_num, HK2⟩
        case measure => simp [intOf]; omega
    · obtain rfl : k = s.size := by omega
      have HQ : Hid (q = true) := hid (by rw [← HR.out]; exact isNm_yes HB.out.1 HB.out.2 HK.out)
      go_wp2_with fail
      go_ret
      exact ⟨by rw [HQ.out]; rfl, rfl⟩
end Go.Proofs.Ytnhkblkijiipeaa
