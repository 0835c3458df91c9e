/-
  The walk of beside of the program's charts: the pieces that are next to one.
-/
import Derived.Test.YtbfpcolkbfljoaaDoorBList
namespace Go.Proofs.YtbfpcolkbfljoaaDoor
open Go.RowKit

/-- The number of a spot's piece. -/
def numS (x : Int × Int × Int) : Nat := (8 * x.1 + x.2.1).toNat
/-- The pieces of a tile that touch one, of the first k. -/
def tlk (n : Nat) (Z : Nat → Int) (t p k : Nat) : List Nat := ((List.range k).filter fun q : Nat => tch p q && Lie n Z t q).map fun q => 8 * t + q
/-- The pieces beyond an end of a piece. -/
def sdl (d : Rl) (C : Int → Int → Int → Bool) (t p : Nat) (s : Int) : List Nat :=
  if C t p s = true then [] else ((fcg d t s).filter fun x => !C x.1 x.2.1 x.2.2).map numS
/-- The pieces that are next to one. -/
def bsd (d : Rl) (C : Int → Int → Int → Bool) (x : Nat) : List Nat :=
  (tlk d.n d.Z (x / 8) (x % 8) 6 ++ sdl d C (x / 8) (x % 8) (fst (x % 8 : Nat))) ++ sdl d C (x / 8) (x % 8) (snd (x % 8 : Nat))
def sid (p : Nat) : Nat → Int
  | 0 => fst p
  | _ => snd p
def acc (d : Rl) (C : Int → Int → Int → Bool) (t p : Nat) : Nat → List Nat
  | 0 => tlk d.n d.Z t p 6
  | k + 1 => acc d C t p k ++ sdl d C t p (sid p k)
theorem acc_two (d : Rl) (C : Int → Int → Int → Bool) (x : Nat) : acc d C (x / 8) (x % 8) 2 = bsd d C x := rfl
def prt (C : Int → Int → Int → Bool) (R : List (Int × Int × Int)) (j : Nat) : List Nat := ((R.take j).filter fun x => !C x.1 x.2.1 x.2.2).map numS
theorem prt_cut {C : Int → Int → Int → Bool} {R : List (Int × Int × Int)} {j : Nat} {a b c : Int} (hj : j < R.length) (e : R.getD j (0, 0, 0) = (a, b, c)) (h : C a b c = true) : prt C R (j + 1) = prt C R j := by
  unfold prt; rw [take_snoc (0, 0, 0) hj, e, List.filter_append]; simp [h]
theorem prt_add {C : Int → Int → Int → Bool} {R : List (Int × Int × Int)} {j : Nat} {a b c : Int} (hj : j < R.length) (e : R.getD j (0, 0, 0) = (a, b, c)) (h : C a b c = false) : prt C R (j + 1) = prt C R j ++ [numS (a, b, c)] := by
  unfold prt; rw [take_snoc (0, 0, 0) hj, e, List.filter_append]; simp [h]
theorem prt_len (C : Int → Int → Int → Bool) (R : List (Int × Int × Int)) (j : Nat) : (prt C R j).length ≤ R.length := by
  unfold prt; rw [List.length_map]
  exact Nat.le_trans (List.length_filter_le _ _) (by simp; omega)
theorem tlk_yes {n : Nat} {Z : Nat → Int} {t p k : Nat} (h : tch p k = true) (h' : Lie n Z t k = true) : tlk n Z t p (k + 1) = tlk n Z t p k ++ [8 * t + k] := by
  unfold tlk; rw [List.range_succ, List.filter_append]; simp [h, h']
theorem tlk_no {n : Nat} {Z : Nat → Int} {t p k : Nat} (h : ¬ (tch p k = true ∧ Lie n Z t k = true)) : tlk n Z t p (k + 1) = tlk n Z t p k := by
  unfold tlk; rw [List.range_succ, List.filter_append]
  have : (tch p k && Lie n Z t k) = false := by
    cases h1 : tch p k <;> cases h2 : Lie n Z t k <;> simp
    exact h ⟨h1, h2⟩
  simp [this]
theorem tlk_len (n : Nat) (Z : Nat → Int) (t p k : Nat) : (tlk n Z t p k).length ≤ k := by
  unfold tlk; rw [List.length_map]
  exact Nat.le_trans (List.length_filter_le _ _) (by simp)
theorem fcg_len (d : Rl) (t s : Int) : (fcg d t s).length ≤ 6 := fac_len _ _ _ _ _
theorem sdl_len (d : Rl) (C : Int → Int → Int → Bool) (t p : Nat) (s : Int) : (sdl d C t p s).length ≤ 6 := by
  unfold sdl; split
  · simp
  · rw [List.length_map]
    exact Nat.le_trans (List.length_filter_le _ _) (fcg_len _ _ _)
theorem acc_len (d : Rl) (C : Int → Int → Int → Bool) (t p k : Nat) : (acc d C t p k).length ≤ 6 + 6 * k := by
  induction k with
  | zero => exact tlk_len _ _ _ _ _
  | succ k ih =>
    show (acc d C t p k ++ _).length ≤ _
    rw [List.length_append]
    have := sdl_len d C t p (sid p k)
    omega
/-- What is in the list of spots beyond a side. -/
theorem fcg_in {d : Rl} {t s : Int} {j : Nat} (hj : j < (fcg d t s).length) {a b c : Int} (e : (fcg d t s).getD j (0, 0, 0) = (a, b, c)) : IsSpot d.n d.Z a b c ∧ (0 ≤ a ∧ a < d.n) ∧ 0 ≤ b ∧ b ≤ 5 := by
  have hm : (a, b, c) ∈ fcg d t s := by
    rw [← e, List.getD_eq_getElem?_getD, List.getElem?_eq_getElem hj]
    exact List.getElem_mem hj
  unfold fcg fac at hm
  simp only [List.mem_map, List.mem_filter] at hm
  obtain ⟨q, ⟨_, hq⟩, e'⟩ := hm
  cases e'
  have := (brs_iff _ _ _ _ _).1 hq
  have h2 := (lie_in this.2).1
  exact ⟨this, ⟨h2.1, h2.2.1⟩, h2.2.2⟩
/-- Whether a signal stands at an end of a piece. -/
def cutB (d : Rl) (t p o : Int) : Bool := (List.range d.l).any fun i => (d.S i).t == t && (d.S i).p == p && (d.S i).o == o
theorem cutB_iff (d : Rl) (t p o : Int) : cutB d t p o = true ↔ ∃ i, i < d.l ∧ (d.S i).t = t ∧ (d.S i).p = p ∧ (d.S i).o = o := by
  unfold cutB; simp only [List.any_eq_true, List.mem_range, Bool.and_eq_true, beq_iff_eq, and_assoc]
theorem stands_to (d : Rl) (hg : SOk d.l d.S) (t p o : Int) (f : Bool) (hf : f = cutB d t p o) (w : World) (hH : Has d w) :
    Calls Tryd.prog 79 #[d.ls, sv t p o] w fun r w' => r = .returned (.bool f) ∧ Below w.heap.size w w' := by
  obtain ⟨k, f', h⟩ := FindIs.ex hg.asc t p o
  have e : f' = f := by rw [hf, Bool.eq_iff_iff, h.iff hg.asc, cutB_iff]
  subst e
  exact stands_any d.lo d.l d.lcap d.S hg.few t p o k f' h w hH.sigs

set_option maxRecDepth 20000 in
set_option maxHeartbeats 25600000 in
theorem beside_any (d : Rl) (hg : Gd d) (mp : Value) (x : Nat) (ht : x / 8 < d.n) (hp : x % 8 ≤ 5) (w : World) (hH : Has d w) :
    Calls Tryd.prog 118 #[d.cht (.func (.func 79) #[d.ls] #[]) mp, .int .i64 x] w (NL (bsd d (cutB d) x) w) := by
  obtain ⟨t, htt⟩ : ∃ t, t = x / 8 := ⟨_, rfl⟩
  obtain ⟨p, hpp⟩ : ∃ p, p = x % 8 := ⟨_, rfl⟩
  have HAC : Hid (bsd d (cutB d) x = acc d (cutB d) t p 2) := hid (by rw [htt, hpp, acc_two])
  rw [← htt] at ht
  rw [← hpp] at hp
  have hsm := hg.small
  have e1 : Int.tdiv (x : Int) 8 = (t : Int) := by rw [Int.tdiv_eq_ediv_of_nonneg (by omega)]; omega
  have e2 : Int.tmod (x : Int) 8 = (p : Int) := by rw [Int.tmod_eq_emod_of_nonneg (by omega)]; omega
  have e3 : (x : Int) / 8 = (t : Int) := by omega
  have e4 : (x : Int) % 8 = (p : Int) := by omega
  have ht2 : t ≤ 1023 := by omega
  have HTC := hid (fun (k : Nat) (hk : k ≤ 5) b hb w => touch_any p k hp hk b hb w)
  have HLI := hid (fun (k : Nat) b hb w hI => blies_any d.W d.H d.ao d.n d.cap d.Z d.bs t k hg.fine b hb w hI)
  have HNM := hid (fun (k : Nat) (hk : k ≤ 5) w => number_any t k ((8 * t + k : Nat) : Int) (by omega) (by omega) (by simp) w)
  have HNS := hid (fun (a b c : Int) (h : (0 ≤ a ∧ a < d.n) ∧ 0 ≤ b ∧ b ≤ 5) w => number_any a b ((numS (a, b, c) : Nat) : Int) (by omega) (by omega) (by unfold numS; dsimp only; omega) w)
  have HEN := hid (fun w hT => ends_yes (p := (p : Int)) (by omega) w hT)
  have HFC := hid (fun (s : Int) (h : 0 ≤ s ∧ s ≤ 3) w hH => facing_any d hg t s (by omega) (by omega) h.1 h.2 w hH)
  have HSD : Hid (∀ k, 0 ≤ sid p k ∧ sid p k ≤ 3) := hid (fun k => by
    have h1 := fst_in (p := (p : Int)) (by omega) (by omega)
    have h2 := snd_in (p := (p : Int)) (by omega) (by omega)
    unfold sid; split
    · exact h1
    · exact h2)
  have HCT := hid (fun (a b c : Int) f (hf : f = cutB d a b c) w hH => stands_to d hg.ok a b c f hf w hH)
  have HV := hid (BS.start (fv := (.func (.func 79) #[d.ls] #[])) (mp := mp) hH)
  have HIN := hid infoX
  have HHH := hid hH
  clear hg hH hsm htt hpp
  go_enter Tryd.func118, Tryd.ntmps118
  go_upto_region 1 with fail
  generalize World.alloc w _ = wm at HV ⊢
  go_wp2_with fail
  go_loopw [7, 20] (fun lst iv wr => ∃ k : Nat, k ≤ 6 ∧ iv = .int .i64 k ∧ Hid (BS d (.func (.func 79) #[d.ls] #[]) mp (tlk d.n d.Z t p k) lst w wr)) (fun _ iv _ => 6 - (intOf iv).toNat)
  case atStart => exact ⟨0, by omega, rfl, HV⟩
  case round =>
    clear HV
    obtain ⟨k, hk, rfl, HV⟩ := hrel
    have c0 := HV.out.cb.c0; have c1 := HV.out.cb.c1; have c2 := HV.out.cb.c2; have c3 := HV.out.cb.c3; have hz := HV.out.cb.size
    by_cases hlt : k < 6
    · obtain ⟨a, ha⟩ : ∃ a, a = tch p k := ⟨_, rfl⟩
      obtain ⟨b, hb⟩ : ∃ b, b = Lie d.n d.Z t k := ⟨_, rfl⟩
      have HA := hid ha
      have HB := hid hb
      have HT1 := hid (HTC.out k (by omega) a ha.symm)
      have HL1 := hid (HLI.out k b hb.symm)
      have HN1 := hid (HNM.out k (by omega))
      have hlen := tlk_len d.n d.Z t p k
      clear ha hb
      cases a
      · go_wp2_with (go_at_call 129; (refine (HT1.out _).mono ?_); rintro e wn ⟨rfl, hn⟩; have HV2 := hid (HV.out.stays hn); clear hn)
        go_roundw
        case rel => exact ⟨k + 1, by omega, by go_num, hid (by rw [tlk_no (fun h => by rw [← HA.out] at h; cases h.1)]; exact HV2.out)⟩
        case measure => simp [intOf]; omega
      · cases b
        · go_wp2_with (first
            | (go_at_call 129; (refine (HT1.out _).mono ?_); rintro e wn ⟨rfl, hn⟩; have HV2 := hid (HV.out.stays hn); clear hn c0 c1 c2 c3 hz; have c0 := HV2.out.cb.c0; have c1 := HV2.out.cb.c1; have c2 := HV2.out.cb.c2; have c3 := HV2.out.cb.c3; have hz := HV2.out.cb.size)
            | (go_at_call 68; (refine (HL1.out _ HV2.out.cb.has.ints).mono ?_); rintro e wn2 ⟨rfl, hn⟩; have HV3 := hid (HV2.out.stays hn); clear hn))
          go_roundw
          case rel => exact ⟨k + 1, by omega, by go_num, hid (by rw [tlk_no (fun h => by rw [← HB.out] at h; cases h.2)]; exact HV3.out)⟩
          case measure => simp [intOf]; omega
        · go_wp2_with (first
            | (go_at_call 129; (refine (HT1.out _).mono ?_); rintro e wn ⟨rfl, hn⟩; have HV2 := hid (HV.out.stays hn); clear hn c0 c1 c2 c3 hz; have c0 := HV2.out.cb.c0; have c1 := HV2.out.cb.c1; have c2 := HV2.out.cb.c2; have c3 := HV2.out.cb.c3; have hz := HV2.out.cb.size)
            | (go_at_call 68; (refine (HL1.out _ HV2.out.cb.has.ints).mono ?_); rintro e wn2 ⟨rfl, hn⟩; have HV3 := hid (HV2.out.stays hn); clear hn)
            | (go_at_call 70; (refine (HN1.out _).mono ?_); rintro e wn3 ⟨rfl, hn⟩; have HV4 := hid (HV3.out.stays hn); have hz4 := HV4.out.cb.size; clear hn)
            | (at_builtin; obtain ⟨i0, HIN'⟩ := HIN.out; refine wpList_append_lies _ rfl _ _ 22 rfl (w.heap.size + 1) 3 i0 (.int .i64 0) 1 8 Tryd.underlying22 HIN'.1 HIN'.2.1 HIN'.2.2.1 HIN'.2.2.2 rfl (by decide) _ _ _ rfl (HV4.out.row.alloc _) ⟨wn3.heap.size, 0, none⟩ 1 1 [.int .i64 (8 * t + k : Nat)] rfl rfl ?c1 ?c2 (by decide) ?c3 ?c4 ?c5 (wn3.heap.size + 1) (by simp) ?_))
          case c1 =>
            intro j u hj
            match j, hj with
            | 0, hj => simp at hj; subst hj; simp [Addr.add]
          case c2 => intro u hu; simp at hu; subst hu; rfl
          case c3 => unfold maxLen; omega
          case c4 => omega
          case c5 => simp; omega
          intro g2 cap2 w6 hown hgrow hat hlt6
          have HV6 := hid (HV4.out.app (x := 8 * t + k) HHH.out hown _ hgrow)
          clear hown hgrow hat hlt6
          go_wp2_with fail
          go_roundw
          case rel => exact ⟨k + 1, by omega, by go_num, hid (by rw [tlk_yes HA.out.symm HB.out.symm]; exact HV6.out)⟩
          case measure => simp [intOf]; omega
    · obtain rfl : k = 6 := by omega
      clear c0 c1 c2 c3 hz
      obtain ⟨wx, hwx⟩ : ∃ wx, wx = wr := ⟨_, rfl⟩
      go_wp2_with (go_at_call 130; (refine (HEN.out _ HV.out.cb.has.tab).mono ?_); rintro e wn ⟨rfl, hn⟩; have HV2 := hid (HV.out.stays hn); clear hn)
      obtain ⟨G, hG⟩ : ∃ G, G = wn.heap.size := ⟨_, rfl⟩
      have HLT := hid (LitB.new (cs := #[.int .i64 (fst p), .int .i64 (snd p)]) (t := 3) HV2.out.row)
      have HV3 := hid (HV2.out.stays (Joins.below_alloc1 wn (.cells #[.int .i64 (fst p), .int .i64 (snd p)] 3)))
      simp only [← hG] at HLT ⊢
      clear hG hwx
      generalize World.alloc wn _ = wv at HLT HV3 ⊢
      go_loopw [7, 50] (fun lst iv wr => ∃ k : Nat, k ≤ 2 ∧ iv = .int .i64 k ∧ Hid (BS d (.func (.func 79) #[d.ls] #[]) mp (acc d (cutB d) t p k) lst w wr) ∧ Hid (LitB #[.int .i64 (fst p), .int .i64 (snd p)] 3 G lst wr)) (fun _ iv _ => 2 - (intOf iv).toNat)
      case atStart => exact ⟨0, by omega, rfl, HV3, HLT⟩
      case round =>
        clear HV3 HLT HV HV2
        obtain ⟨k, hk, rfl, HV, HLT⟩ := hrel
        by_cases hlt2 : k < 2
        · have hcs : wr.cell? ⟨G, k, none⟩ = some (.int .i64 (sid p k)) := by
            rcases (show k = 0 ∨ k = 1 by omega) with rfl | rfl
            · exact cell_of_row wr _ 0 _ _ _ HLT.out.blk
            · exact cell_of_row wr _ 1 _ _ _ HLT.out.blk
          have c0 := HV.out.cb.c0; have c1 := HV.out.cb.c1; have c2 := HV.out.cb.c2; have c3 := HV.out.cb.c3; have c4 := HV.out.cb.c4; have hz := HV.out.cb.size
          have hgz := HLT.out.lt
          obtain ⟨s, hs⟩ : ∃ s, s = sid p k := ⟨_, rfl⟩
          have hsr := HSD.out k
          rw [← hs] at hcs hsr
          have HS := hid hs
          obtain ⟨q, hq⟩ : ∃ q, q = (cutB d) t p s := ⟨_, rfl⟩
          have HQ := hid hq
          have HC1 := hid (HCT.out t p s q hq)
          have HF1 := hid (HFC.out s hsr)
          clear hs hq
          cases q
          · go_wp2_with (first
              | (go_at_call 79; (refine (HC1.out _ HV.out.cb.has).mono ?_); rintro e wn ⟨rfl, hn⟩; have HV2 := hid (HV.out.stays hn); have HL2 := hid (HLT.out.stays hn); clear hn c0 c1 c2 c3 c4 hz; have c0 := HV2.out.cb.c0; have c1 := HV2.out.cb.c1; have c2 := HV2.out.cb.c2; have c3 := HV2.out.cb.c3; have hz := HV2.out.cb.size)
              | (go_at_call 110; (refine (HF1.out _ HV2.out.cb.has).mono ?_); rintro e wn2 ⟨rv0, rfl, hrow, hn⟩; obtain ⟨ra, rcap, rfl⟩ := slice_of_row hrow; have HV3 := hid (HV2.out.stays hn); have HL3 := hid (HL2.out.stays hn); have HSP := hid (Sps.start hrow HV2.out.row (Nat.le_refl _)); clear hn hrow c0 c1 c2 c3 hz))
            obtain ⟨R, hR⟩ : ∃ R, R = fcg d t s := ⟨_, rfl⟩
            have hR6 : R.length ≤ 6 := by rw [hR]; exact fcg_len _ _ _
            have HRI : Hid (∀ j, j < R.length → ∀ a b c, R.getD j (0, 0, 0) = (a, b, c) → (0 ≤ a ∧ a < d.n) ∧ 0 ≤ b ∧ b ≤ 5) := hid (fun j hj a b c e => by rw [hR] at hj e; exact (fcg_in hj e).2)
            have HSL : Hid (acc d (cutB d) t p (k + 1) = acc d (cutB d) t p k ++ prt (cutB d) R R.length) := hid (by
              show acc d (cutB d) t p k ++ sdl d (cutB d) t p (sid p k) = _
              unfold sdl prt
              rw [← HS.out, if_neg (by rw [← HQ.out]; simp), ← hR, List.take_length])
            have hal := acc_len d (cutB d) t p k
            simp only [← hR] at HSP ⊢
            clear hR hcs hgz HV HLT HV2 HL2 HC1 HF1
            go_loopw [7, 67] (fun lst iv wr => ∃ j : Nat, j ≤ R.length ∧ iv = .int .i64 j ∧ Hid (BS d (.func (.func 79) #[d.ls] #[]) mp (acc d (cutB d) t p k ++ prt (cutB d) R j) lst w wr) ∧ Hid (LitB #[.int .i64 (fst p), .int .i64 (snd p)] 3 G lst wr) ∧ Hid (Sps R ra lst wr)) (fun _ iv _ => R.length - (intOf iv).toNat)
            case atStart => exact ⟨0, Nat.zero_le _, rfl, hid (by have := HV3.out; simpa [prt] using this), HL3, HSP⟩
            case round =>
              clear HV3 HL3 HSP
              obtain ⟨j, hj, rfl, HV, HLT, HSP⟩ := hrel
              by_cases hlj : j < R.length
              · obtain ⟨rb, rfl, hrz, hrn, r0, r1, r2⟩ := HSP.out j hlj
                obtain ⟨y, hy⟩ : ∃ y, R.getD j (0, 0, 0) = y := ⟨_, rfl⟩
                obtain ⟨a, b, c⟩ := y
                rw [hy] at r0 r1 r2
                dsimp only at r0 r1 r2
                have HY := hid hy
                have hab := HRI.out j hlj a b c hy
                have HN1 := hid (HNS.out a b c hab)
                obtain ⟨v, hv⟩ : ∃ v, v = numS (a, b, c) := ⟨_, rfl⟩
                rw [← hv] at HN1
                have HVV := hid hv
                obtain ⟨q, hq⟩ : ∃ q, q = (cutB d) a b c := ⟨_, rfl⟩
                have HQ1 := hid hq
                have HC1 := hid (HCT.out a b c q hq)
                have c0 := HV.out.cb.c0; have c1 := HV.out.cb.c1; have c2 := HV.out.cb.c2; have c3 := HV.out.cb.c3; have c4 := HV.out.cb.c4; have hz := HV.out.cb.size
                have hpl := prt_len (cutB d) R j
                obtain ⟨LL, hLL⟩ : ∃ LL, LL = acc d (cutB d) t p k ++ prt (cutB d) R j := ⟨_, rfl⟩
                have hl30 : LL.length ≤ 30 := by rw [hLL, List.length_append]; omega
                rw [← hLL] at HV
                have HLL := hid hLL
                clear hLL
                have hj' : (j : Int) < ((R.length : Nat) : Int) := by omega
                have HV1 := hid (HV.out.stays (Joins.below_alloc1 wr (.cells #[.int .i64 a, .int .i64 b, .int .i64 c] 50)))
                have HL1 := hid (HLT.out.stays (Joins.below_alloc1 wr (.cells #[.int .i64 a, .int .i64 b, .int .i64 c] 50)))
                have HS1 := hid (HSP.out.stays (Joins.below_alloc1 wr (.cells #[.int .i64 a, .int .i64 b, .int .i64 c] 50)))
                clear hy hv hq hab hrn
                cases q
                · go_wp2_with (first
                    | (go_at_call 79; (refine (HC1.out _ HV1.out.cb.has).mono ?_); rintro e wn ⟨rfl, hn⟩; have HV2 := hid (HV1.out.stays hn); have HL2 := hid (HL1.out.stays hn); have HS2 := hid (HS1.out.stays hn); have q0 := (hn.cell (p := ⟨wr.heap.size, 0, none⟩) (by simp)).trans (show _ = some (.int .i64 a) by simp); have q1 := (hn.cell (p := ⟨wr.heap.size, 1, none⟩) (by simp)).trans (show _ = some (.int .i64 b) by simp); have hwz : wr.heap.size < wn.heap.size := (by have := hn.size; simp at this; omega); clear hn c0 c1 c2 c3 c4 hz r0 r1 r2)
                    | (go_at_call 70; (refine (HN1.out _).mono ?_); rintro e wn3 ⟨rfl, hn⟩; have HV4 := hid (HV2.out.stays hn); have HL4 := hid (HL2.out.stays hn); have HS4 := hid (HS2.out.stays hn); have hz4 := HV4.out.cb.size; clear hn q0 q1)
                    | (at_builtin; obtain ⟨i0, HIN'⟩ := HIN.out; refine wpList_append_lies _ rfl _ _ 22 rfl (w.heap.size + 1) 3 i0 (.int .i64 0) 1 8 Tryd.underlying22 HIN'.1 HIN'.2.1 HIN'.2.2.1 HIN'.2.2.2 rfl (by decide) _ _ _ rfl (HV4.out.row.alloc _) ⟨wn3.heap.size, 0, none⟩ 1 1 [.int .i64 (v : Nat)] rfl rfl ?c1 ?c2 (by decide) ?c3 ?c4 ?c5 (wn3.heap.size + 1) (by simp) ?_))
                  case c1 =>
                    intro j u hj
                    match j, hj with
                    | 0, hj => simp at hj; subst hj; simp [Addr.add]
                  case c2 => intro u hu; simp at hu; subst hu; rfl
                  case c3 => unfold maxLen; omega
                  case c4 => omega
                  case c5 => simp; omega
                  intro g2 cap2 w6 hown hgrow hat hlt6
                  have HV6 := hid (HV4.out.app (x := v) HHH.out hown _ hgrow)
                  have HL6 := hid (HL4.out.app (n := LL.length + 1) (c := cap2) _ hgrow hat)
                  have HS6 := hid (HS4.out.app (n := LL.length + 1) (c := cap2) _ hgrow hat)
                  clear hown hgrow hat hlt6
                  go_wp2_with fail
                  go_roundw
                  case rel => exact ⟨j + 1, by omega, by go_num, hid (by rw [prt_add hlj HY.out HQ1.out.symm, ← List.append_assoc, ← HVV.out, ← HLL.out]; exact HV6.out), HL6, HS6⟩
                  case measure => simp [intOf]; omega
                · go_wp2_with (go_at_call 79; (refine (HC1.out _ HV1.out.cb.has).mono ?_); rintro e wn ⟨rfl, hn⟩; have HV2 := hid (HV1.out.stays hn); have HL2 := hid (HL1.out.stays hn); have HS2 := hid (HS1.out.stays hn); clear hn c0 c1 c2 c3 c4 hz r0 r1 r2)
                  go_roundw
                  case rel => exact ⟨j + 1, by omega, by go_num, hid (by rw [prt_cut hlj HY.out HQ1.out.symm, ← HLL.out]; exact HV2.out), HL2, HS2⟩
                  case measure => simp [intOf]; omega
              · obtain rfl : j = R.length := by omega
                go_wp2_with fail
                go_roundw
                case rel => exact ⟨k + 1, by omega, by go_num, hid (by rw [HSL.out]; exact HV.out), HLT⟩
                case measure => simp [intOf]; omega
          · have HSL : Hid (acc d (cutB d) t p (k + 1) = acc d (cutB d) t p k) := hid (by
              show acc d (cutB d) t p k ++ sdl d (cutB d) t p (sid p k) = _
              unfold sdl
              rw [← HS.out, if_pos HQ.out.symm, List.append_nil])
            go_wp2_with (go_at_call 79; (refine (HC1.out _ HV.out.cb.has).mono ?_); rintro e wn ⟨rfl, hn⟩; have HV2 := hid (HV.out.stays hn); have HL2 := hid (HLT.out.stays hn); clear hn c0 c1 c2 c3 c4 hz)
            go_roundw
            case rel => exact ⟨k + 1, by omega, by go_num, hid (by rw [HSL.out]; exact HV2.out), HL2⟩
            case measure => simp [intOf]; omega
        · obtain rfl : k = 2 := by omega
          obtain ⟨la, lc, rfl⟩ := slice_of_row HV.out.row
          go_wp2_with fail
          go_ret
          refine ⟨la, lc, ?_, ?_, HV.out.below⟩
          · rw [HAC.out]; rfl
          · rw [HAC.out]; exact row_mono HV.out.row (by omega)
end Go.Proofs.YtbfpcolkbfljoaaDoor
