/-
  The walk of Loose of the reference.
-/
import Derived.Test.YtlpmahdplilbiaaDoorWalkLoose
namespace Go.Proofs.YtlpmahdplilbiaaDoor
open Go.RowKit

set_option maxHeartbeats 800000 in
theorem spotOf_any (k : Nat) (hk : k ≤ 100000) (t p s : Int) (ht : (k : Int) / 24 = t) (hp : (k : Int) / 4 % 6 = p) (hs : (k : Int) % 4 = s) (w : World) : Calls Tryd.prog 60 #[.int .i64 k] w fun e w' => e = .returned (sv t p s) ∧ Below w.heap.size w w' := by
  have h0 : 0 ≤ (k : Int) := by omega
  have h1 : 0 ≤ (k : Int) / 4 := by omega
  have h2 : (k : Int) / 4 ≤ 100000 := by omega
  have h3 : 0 ≤ t := by omega
  have h4 : t ≤ 100000 := by omega
  go_enter Tryd.func60, Tryd.ntmps60
  go_wp2
  exact bodyPost_ret (v := sv t p s) (by simp [results, Tryd.results60, go_sem]) rfl ⟨rfl, Joins.below_alloc1 _ _⟩
set_option maxHeartbeats 1600000 in
theorem has_yes {p s : Int} (h0 : 0 ≤ s) (h : 0 ≤ oth p s) (w : World) : Calls Tryd.prog 64 #[.int .i64 p, .int .i64 s] w fun e w' => e = .returned (.bool true) ∧ w = w' := by
  obtain ⟨a, ha⟩ : ∃ a, a = fst p := ⟨_, rfl⟩
  obtain ⟨b, hb⟩ : ∃ b, b = snd p := ⟨_, rfl⟩
  have HA := hid ha
  have HB := hid hb
  have hy := (oth_yes h).2.2.2.2
  rw [← ha, ← hb] at hy
  have hab : s = a ∨ (s ≠ a ∧ s = b) := by
    rcases hy with ⟨h, _⟩ | ⟨h, h', _⟩
    · exact .inl h
    · exact .inr ⟨h', h⟩
  clear ha hb hy h
  rcases hab with rfl | ⟨hn, rfl⟩
  · go_enter Tryd.func64, Tryd.ntmps64
    go_wp2_with (first | (go_at_call 41; refine (first_any _ _).mono ?_; rintro e w' ⟨rfl, rfl⟩; rw [← HA.out]) | (go_at_call 42; refine (second_any _ _).mono ?_; rintro e w' ⟨rfl, rfl⟩; rw [← HB.out]))
    go_ret
    exact ⟨rfl, rfl⟩
  · have e1 : (a == s) = false := by simp; omega
    clear hn
    go_enter Tryd.func64, Tryd.ntmps64
    go_wp2_with (first | (go_at_call 41; refine (first_any _ _).mono ?_; rintro e w' ⟨rfl, rfl⟩; rw [← HA.out]) | (go_at_call 42; refine (second_any _ _).mono ?_; rintro e w' ⟨rfl, rfl⟩; rw [← HB.out]))
    go_ret
    exact ⟨rfl, rfl⟩
set_option maxHeartbeats 1600000 in
theorem has_no {p s : Int} (hp : 0 ≤ p ∧ p ≤ 5) (h : oth p s < 0) (w : World) : Calls Tryd.prog 64 #[.int .i64 p, .int .i64 s] w fun e w' => e = .returned (.bool false) ∧ w = w' := by
  obtain ⟨a, ha⟩ : ∃ a, a = fst p := ⟨_, rfl⟩
  obtain ⟨b, hb⟩ : ∃ b, b = snd p := ⟨_, rfl⟩
  have HA := hid ha
  have HB := hid hb
  have f1 := (fst_in hp.1 hp.2).1
  have f2 := (snd_in hp.1 hp.2).1
  unfold oth at h
  rw [← ha] at f1 h
  rw [← hb] at f2 h
  by_cases h0 : s < 0
  · clear h ha hb f1 f2
    go_enter Tryd.func64, Tryd.ntmps64
    go_wp2_with fail
    go_ret
    exact ⟨rfl, rfl⟩
  · rw [if_neg h0] at h
    have n1 : a ≠ s := by intro e; rw [if_pos e] at h; omega
    rw [if_neg n1] at h
    have n2 : b ≠ s := by intro e; rw [if_pos e] at h; omega
    have e1 : (a == s) = false := by simpa using n1
    have e2 : (b == s) = false := by simpa using n2
    have h0' : 0 ≤ s := by omega
    clear h ha hb n1 n2 f1 f2 h0
    go_enter Tryd.func64, Tryd.ntmps64
    go_wp2_with (first | (go_at_call 41; refine (first_any _ _).mono ?_; rintro e w' ⟨rfl, rfl⟩; rw [← HA.out]) | (go_at_call 42; refine (second_any _ _).mono ?_; rintro e w' ⟨rfl, rfl⟩; rw [← HB.out]))
    go_ret
    exact ⟨rfl, rfl⟩

set_option maxHeartbeats 3200000 in
theorem refloose_yes (W H : Int) (ao : Option Addr) (n cap : Nat) (Z : Nat → Int) (bo : Option Addr) (m bcap : Nat) (B : Nat → Bool) (hn : n ≤ 9223372036854775807) (hm : m ≤ 9223372036854775807) (hR : Right W H n m Z B) (w : World) (hT : Tab w) (hI : Ints w ao n Z) (hB : Bools w bo m B) :
    Calls Tryd.prog 35 #[rv W H (.slice ao n cap) (.slice bo m bcap)] w (NextOut (loo W H n Z (n * 24)) 0 w) := by
  obtain ⟨i0, hi, hz0, hz1, hz2⟩ := info_parts info31
  have HIN := hid (And.intro hi (And.intro hz0 (And.intro hz1 hz2)))
  clear hi hz0 hz1 hz2
  have HI := hid hI
  have HB := hid hB
  have HT := hid hT
  have HR0 := hid (rb_start (Wd := W) (Hd := H) (cap := cap) (bcap := bcap) hT hI hB)
  have HV := hid (verr_ok hR)
  have HR := hid hR
  have hbd := hR.sized.bound
  have hnW := hR.sets
  have hn2 : n ≤ 1024 := by omega
  obtain ⟨X, hX⟩ : ∃ X, X = w.heap.size := ⟨_, rfl⟩
  have HX := hid hX
  obtain ⟨b1, b2⟩ := hbd
  clear hI hB hT hR hnW
  go_enter Tryd.func35, Tryd.ntmps35
  go_wp2_with fail
  refine (refvalidate_any W H ao n cap Z bo m bcap B hn hm _ HR0.out.ints HR0.out.bools 0 HV.out).mono ?_
  rintro r w1 ⟨rfl, hb1⟩
  have HQ : Hid (QS W H ao n cap Z bo m bcap B (loo W H n Z 0) (.slice none 0 0) w w1) := hid ⟨HR0.out.stays hb1, World.ownsRow_nil _ _ _ _⟩
  have c0 := (HR0.out.stays hb1).c0
  have c1 := (HR0.out.stays hb1).c1
  rw [← hX] at c0 c1
  simp only [← hX]
  clear hb1 hX HR0 HV
  go_wp2_with fail
  clear c0 c1
  go_loopg [5, 6] (n * 24) (fun gk lst iv wr => ∃ k : Nat, gk + k = n * 24 ∧ iv = .int .i64 k ∧ Hid (QS W H ao n cap Z bo m bcap B (loo W H n Z k) lst w wr))
  case atStart => exact ⟨0, rfl, rfl, HQ⟩
  case round =>
    obtain ⟨k, hk, rfl, hQ⟩ := hrel
    clear HQ
    have hk6 : k ≤ n * 24 := by omega
    have HK := hid hk
    clear hk
    by_cases hlt : k < n * 24
    · obtain ⟨⟨t, p, s⟩, hx⟩ : ∃ x, spotK k = x := ⟨_, rfl⟩
      have ht : (k : Int) / 24 = t := by have := congrArg (·.1) hx; simp [spotK] at this; omega
      have hp : (k : Int) / 4 % 6 = p := by have := congrArg (·.2.1) hx; simp [spotK] at this; omega
      have hs : (k : Int) % 4 = s := by have := congrArg (·.2.2) hx; simp [spotK] at this; omega
      have HSP := hid hx
      have HT0 : Hid (0 ≤ t ∧ t < W * H ∧ 0 ≤ s ∧ s ≤ 3) := hid ⟨by omega, by have := HR.out.sets; omega, by omega, by omega⟩
      have c0 := hQ.out.rb.c0
      have c1 := hQ.out.rb.c1
      have c2 := hQ.out.rb.c2
      have c3 := hQ.out.rb.c3
      have hXz := hQ.out.rb.size
      rw [← HX.out] at c0 c1 c2 c3 hXz
      have hQ0 := hQ
      clear hx hQ
      have hpd : 0 ≤ p ∧ p ≤ 5 := by omega
      have HPD := hid hpd
      have ek : k / 24 < 1000000 := by omega
      go_wp2_with fail
      refine (spotOf_any k (by omega) t p s ht hp hs _).mono ?_
      rintro r w1 ⟨rfl, hb1⟩
      have HQ1 := hid ((hQ0.out.stays hb1).stays (Joins.below_alloc1 w1 (.cells #[.int .i64 t, .int .i64 p, .int .i64 s] 31)))
      have e0 := (hb1.cell (p := ⟨X, 0, none⟩) hXz).trans c0
      have e1 := (hb1.cell (p := ⟨X, 1, none⟩) hXz).trans c1
      have e2 := (hb1.cell (p := ⟨X, 2, none⟩) hXz).trans c2
      have e3 := (hb1.cell (p := ⟨X, 3, none⟩) hXz).trans c3
      have hX1 : X < w1.heap.size := by have := hb1.size; omega
      clear hb1 c0 c1 c2 c3 hQ0 ht hp hs hpd ek hXz
      cases hli : Lie n Z t p
      · have HE : Hid (lseB W H n Z k = false) := hid (by rw [Bool.eq_false_iff]; exact fun h => by have := ((lse_iff HSP.out).1 h).1.2; rw [hli] at this; cases this)
        have HL := hid hli
        clear hli
        go_wp2_with fail
        refine (reflies_any W H ao n cap Z _ t p (fun i hi => ⟨(HR.out.fine i hi).1, (HR.out.fine i hi).2.1⟩) false HL.out _ HQ1.out.rb.ints).mono ?_
        rintro r w2 ⟨rfl, hb2⟩
        have HQ2 := hid (HQ1.out.stays hb2)
        clear hb2 e0 e1 e2 e3 HQ1
        go_wp2_with fail
        go_roundg (gk - 1)
        case measure => have := HK.out; omega
        case rel => exact ⟨k + 1, by have := HK.out; omega, by go_num, hid (by rw [loo_no HE.out]; exact HQ2.out)⟩
      · have HL := hid hli
        clear hli
        go_wp2_with fail
        refine (reflies_any W H ao n cap Z _ t p (fun i hi => ⟨(HR.out.fine i hi).1, (HR.out.fine i hi).2.1⟩) true HL.out _ HQ1.out.rb.ints).mono ?_
        rintro r w2 ⟨rfl, hb2⟩
        obtain ⟨hz2, hc2, hb2'⟩ := after hb2
        have u0 := hc2 0
        have u1 := hc2 1
        have u2 := hc2 2
        simp only [List.getElem?_toArray, List.getElem?_cons_zero, List.getElem?_cons_succ] at u0 u1 u2
        have HQ2 := hid (HQ1.out.stays hb2)
        have d0 := (hb2'.cell (p := ⟨X, 0, none⟩) hX1).trans e0
        have d1 := (hb2'.cell (p := ⟨X, 1, none⟩) hX1).trans e1
        have d2 := (hb2'.cell (p := ⟨X, 2, none⟩) hX1).trans e2
        have d3 := (hb2'.cell (p := ⟨X, 3, none⟩) hX1).trans e3
        clear hb2 hc2 hb2' e0 e1 e2 e3 HQ1
        by_cases ho : 0 ≤ oth p s
        · have HP : Hid (IsSpot n Z t p s) := hid ⟨ho, HL.out⟩
          have HO := hid ho
          clear ho
          go_wp2_with fail
          refine (has_yes HT0.out.2.2.1 HO.out _).mono ?_
          rintro e w' ⟨rfl, rfl⟩
          go_wp2_with fail
          refine (reffollow_any W H ao n cap Z _ HR.out.sized HR.out.sets (fun i hi => ⟨(HR.out.fine i hi).1, (HR.out.fine i hi).2.1⟩) t p s HT0.out.1 HT0.out.2.1 HT0.out.2.2.1 HT0.out.2.2.2 _ HQ2.out.rb.tab HQ2.out.rb.ints).mono ?_
          rintro r w3 ⟨l1, rfl, hr1, hb3⟩
          have HQ3 := hid (HQ2.out.stays hb3)
          have v0 := (hb3.cell (p := ⟨w1.heap.size, 0, none⟩) hz2).trans u0
          have v1 := (hb3.cell (p := ⟨w1.heap.size, 1, none⟩) hz2).trans u1
          have v2 := (hb3.cell (p := ⟨w1.heap.size, 2, none⟩) hz2).trans u2
          have hl := nxt_len W H Z t s
          obtain ⟨al, cl, rfl⟩ := row_slice hr1
          have hz3 : w1.heap.size < w3.heap.size := by have := hb3.size; omega
          clear hr1 hb3 u0 u1 u2 d0 d1 d2 d3 HQ2
          by_cases hne : nxt W H Z t s = []
          · have hlen : (nxt W H Z t s).length = 0 := by rw [hne]; rfl
            have HE : Hid (lseB W H n Z k = true) := hid ((lse_iff HSP.out).2 ⟨HP.out, hne⟩)
            have hlo := loo_len W H n Z k
            have hsz := HQ3.out.rb.size
            have HSZ : Hid (w.heap.size + 1 ≤ w3.heap.size) := hid (by omega)
            rw [hlen]
            clear hlen hne hl hsz
            go_wp2_with (at_builtin; refine wpList_append_own _ rfl _ _ 46 rfl (w.heap.size + 1) 31 i0 (.agg #[.int .i64 0, .int .i64 0, .int .i64 0]) 3 24 Tryd.underlying46 HIN.out.1 HIN.out.2.1 HIN.out.2.2.1 HIN.out.2.2.2 rfl (by decide) _ _ _ rfl (HQ3.out.row.alloc _) ⟨w3.heap.size, 0, none⟩ 1 1 [.int .i64 t, .int .i64 p, .int .i64 s] rfl rfl ?c1 ?c2 ?c3 ?c4 ?c5 ?_)
            case c1 =>
              intro j u hj
              match j, hj with
              | 0, hj => simp at hj; subst hj; simp [Addr.add]
              | 1, hj => simp at hj; subst hj; simp [Addr.add]
              | 2, hj => simp at hj; subst hj; simp [Addr.add]
            case c2 => intro u hu; simp at hu; rcases hu with rfl | rfl | rfl <;> rfl
            case c3 => unfold maxLen; omega
            case c4 => omega
            case c5 => have := HSZ.out; simp; omega
            intro v' w5 hown' hgrow _
            have H5 := hid (HQ3.out.app (x := (t, p, s)) HT.out HI.out HB.out hown' _ hgrow)
            clear hown' hgrow
            go_wp2_with fail
            go_roundg (gk - 1)
            case measure => have := HK.out; omega
            case rel => exact ⟨k + 1, by have := HK.out; omega, by go_num, hid (by rw [loo_yes HE.out, HSP.out]; exact H5.out)⟩
          · have HE : Hid (lseB W H n Z k = false) := hid (by rw [Bool.eq_false_iff]; exact fun h => hne ((lse_iff HSP.out).1 h).2)
            obtain ⟨q, hq⟩ : ∃ q, q = (nxt W H Z t s).length := ⟨_, rfl⟩
            have hq0 : 0 < q := by rw [hq]; exact List.length_pos_iff.2 hne
            rw [← hq] at hl ⊢
            have hq1 : ((q : Int) == 0) = false := by simp; omega
            clear hne hq
            go_wp2_with fail
            go_roundg (gk - 1)
            case measure => have := HK.out; omega
            case rel => exact ⟨k + 1, by have := HK.out; omega, by go_num, hid (by rw [loo_no HE.out]; exact HQ3.out)⟩
        · have ho' : oth p s < 0 := by omega
          have HE : Hid (lseB W H n Z k = false) := hid (by rw [Bool.eq_false_iff]; exact fun h => ho ((lse_iff HSP.out).1 h).1.1)
          have HO := hid ho'
          clear ho ho'
          go_wp2_with fail
          refine (has_no HPD.out HO.out _).mono ?_
          rintro e w' ⟨rfl, rfl⟩
          go_wp2_with fail
          go_roundg (gk - 1)
          case measure => have := HK.out; omega
          case rel => exact ⟨k + 1, by have := HK.out; omega, by go_num, hid (by rw [loo_no HE.out]; exact HQ2.out)⟩
    · obtain rfl : k = n * 24 := by omega
      have c2 := hQ.out.rb.c2
      rw [← HX.out] at c2
      go_wp2_with fail
      go_ret2
      exact ⟨_, rfl, row_mono hQ.out.row (by omega), hQ.out.rb.below⟩
end Go.Proofs.YtlpmahdplilbiaaDoor
