/-
  The walk of pieces of the program's charts: the numbers of all pieces, ascending.
-/
import Derived.Test.YtbfpcolkbfljoaaDoorBBlk
namespace Go.Proofs.YtbfpcolkbfljoaaDoor
open Go.RowKit Go.Maps

/-- The pieces of a tile, of the first k; the pieces of the first t tiles. -/
def rwk (n : Nat) (Z : Nat → Int) (t k : Nat) : List Nat := ((List.range k).filter fun q : Nat => Lie n Z t q).map fun q => 8 * t + q
def pcs (n : Nat) (Z : Nat → Int) : Nat → List Nat
  | 0 => []
  | t + 1 => pcs n Z t ++ rwk n Z t 6
theorem rwk_yes {n : Nat} {Z : Nat → Int} {t k : Nat} (h : Lie n Z t k = true) : rwk n Z t (k + 1) = rwk n Z t k ++ [8 * t + k] := by
  unfold rwk; rw [List.range_succ, List.filter_append]; simp [h]
theorem rwk_no {n : Nat} {Z : Nat → Int} {t k : Nat} (h : Lie n Z t k = false) : rwk n Z t (k + 1) = rwk n Z t k := by
  unfold rwk; rw [List.range_succ, List.filter_append]; simp [h]
theorem rwk_len (n : Nat) (Z : Nat → Int) (t k : Nat) : (rwk n Z t k).length ≤ k := by
  unfold rwk; rw [List.length_map]
  exact Nat.le_trans (List.length_filter_le _ _) (by simp)
theorem pcs_len (n : Nat) (Z : Nat → Int) (t : Nat) : (pcs n Z t).length ≤ 6 * t := by
  induction t with
  | zero => exact Nat.le_refl _
  | succ t ih =>
    show (pcs n Z t ++ rwk n Z t 6).length ≤ _
    rw [List.length_append]
    have := rwk_len n Z t 6
    omega
theorem mem_rwk {n : Nat} {Z : Nat → Int} {t y : Nat} : y ∈ rwk n Z t 6 ↔ y / 8 = t ∧ Lie n Z (y / 8 : Nat) (y % 8 : Nat) = true := by
  unfold rwk
  simp only [List.mem_map, List.mem_filter, List.mem_range]
  constructor
  · rintro ⟨q, ⟨hq, h1⟩, rfl⟩
    have e1 : (8 * t + q) / 8 = t := by omega
    have e2 : (8 * t + q) % 8 = q := by omega
    rw [e1, e2]
    exact ⟨rfl, h1⟩
  · rintro ⟨rfl, h1⟩
    have := (lie_in h1).1
    exact ⟨y % 8, ⟨by omega, h1⟩, by omega⟩
theorem mem_pcs {n : Nat} {Z : Nat → Int} {t y : Nat} : y ∈ pcs n Z t ↔ y / 8 < t ∧ Lie n Z (y / 8 : Nat) (y % 8 : Nat) = true := by
  induction t with
  | zero => simp [pcs]
  | succ t ih =>
    show y ∈ pcs n Z t ++ rwk n Z t 6 ↔ _
    rw [List.mem_append, ih, mem_rwk]
    constructor
    · rintro (⟨a, b⟩ | ⟨a, b⟩)
      · exact ⟨by omega, b⟩
      · exact ⟨by omega, b⟩
    · rintro ⟨a, b⟩
      by_cases e : y / 8 < t
      · exact .inl ⟨e, b⟩
      · exact .inr ⟨by omega, b⟩
theorem pcs_asc (n : Nat) (Z : Nat → Int) (t : Nat) : (pcs n Z t).Pairwise (· < ·) := by
  induction t with
  | zero => exact List.Pairwise.nil
  | succ t ih =>
    show (pcs n Z t ++ rwk n Z t 6).Pairwise (· < ·)
    rw [List.pairwise_append]
    refine ⟨ih, ?_, fun a ha b hb => ?_⟩
    · unfold rwk
      rw [List.pairwise_map]
      exact (List.pairwise_lt_range.filter _).imp fun h => by omega
    · have h1 := (mem_pcs.1 ha).1
      have h2 := (mem_rwk.1 hb).1
      omega
/-- All pieces. -/
def allp (d : Rl) : List Nat := pcs d.n d.Z d.n
theorem mem_allp {d : Rl} {y : Nat} : y ∈ allp d ↔ Pl d y := by
  unfold allp Pl
  rw [mem_pcs]
  exact ⟨fun h => h.2, fun h => ⟨by have := (lie_in h).1; omega, h⟩⟩
theorem allp_len (d : Rl) : (allp d).length ≤ 6 * d.n := pcs_len _ _ _

set_option maxRecDepth 20000 in
set_option maxHeartbeats 12800000 in
theorem pieces_any (d : Rl) (hg : Gd d) (fv mp : Value) (w : World) (hH : Has d w) :
    Calls Tryd.prog 103 #[d.cht fv mp] w (NL (allp d) w) := by
  have hsm := hg.small
  have HLI := hid (fun (t k : Nat) b hb w hI => blies_any d.W d.H d.ao d.n d.cap d.Z d.bs t k hg.fine b hb w hI)
  have HNM := hid (fun (t k : Nat) (ht : t < d.n) (hk : k ≤ 5) w => number_any t k ((8 * t + k : Nat) : Int) (by omega) (by omega) (by simp) w)
  have HV := hid (BS.start (fv := fv) (mp := mp) hH)
  have HIN := hid infoX
  have HHH := hid hH
  have hn2 : d.n ≤ 1024 := hsm.2
  clear hg hH hsm
  go_enter Tryd.func103, Tryd.ntmps103
  go_upto_region 2 with fail
  generalize World.alloc w _ = wm at HV ⊢
  have c2 := HV.out.cb.c2; have hz := HV.out.cb.size
  go_wp2_with fail
  go_loopw [3, 10] (fun lst iv wr => ∃ t : Nat, t ≤ d.n ∧ iv = .int .i64 t ∧ Hid (BS d fv mp (pcs d.n d.Z t) lst w wr)) (fun _ iv _ => d.n - (intOf iv).toNat)
  case atStart => exact ⟨0, Nat.zero_le _, rfl, HV⟩
  case round =>
    clear HV c2 hz
    obtain ⟨t, ht, rfl, HV⟩ := hrel
    by_cases hlt : t < d.n
    · have hlt' : (t : Int) < (d.n : Int) := by omega
      go_wp2_with fail
      go_loopw [3, 13] (fun lst iv wr => ∃ k : Nat, k ≤ 6 ∧ iv = .int .i64 k ∧ Hid (BS d fv mp (pcs d.n d.Z t ++ rwk d.n d.Z t k) lst w wr)) (fun _ iv _ => 6 - (intOf iv).toNat)
      case atStart => exact ⟨0, Nat.zero_le _, rfl, hid (by have := HV.out; simpa [rwk] using this)⟩
      case round =>
        clear HV
        obtain ⟨k, hk, rfl, HV⟩ := hrel
        by_cases hlt2 : k < 6
        · have c0 := HV.out.cb.c0; have c1 := HV.out.cb.c1; have c2 := HV.out.cb.c2; have c3 := HV.out.cb.c3; have hz := HV.out.cb.size
          obtain ⟨b, hb⟩ : ∃ b, b = Lie d.n d.Z t k := ⟨_, rfl⟩
          have HB := hid hb
          have HL1 := hid (HLI.out t k b hb.symm)
          have HN1 := hid (HNM.out t k hlt (by omega))
          obtain ⟨LL, hLL⟩ : ∃ LL, LL = pcs d.n d.Z t ++ rwk d.n d.Z t k := ⟨_, rfl⟩
          have hlen : LL.length ≤ 10000 := by
            rw [hLL, List.length_append]
            have := pcs_len d.n d.Z t
            have := rwk_len d.n d.Z t k
            omega
          rw [← hLL] at HV
          have HLL := hid hLL
          clear hb hLL
          cases b
          · go_wp2_with (go_at_call 68; (refine (HL1.out _ HV.out.cb.has.ints).mono ?_); rintro e wn2 ⟨rfl, hn⟩; have HV3 := hid (HV.out.stays hn); clear hn c0 c1 c2 c3 hz)
            go_roundw
            case rel => exact ⟨k + 1, by omega, by go_num, hid (by rw [rwk_no HB.out.symm, ← HLL.out]; exact HV3.out)⟩
            case measure => simp [intOf]; omega
          · go_wp2_with (first
              | (go_at_call 68; (refine (HL1.out _ HV.out.cb.has.ints).mono ?_); rintro e wn2 ⟨rfl, hn⟩; have HV3 := hid (HV.out.stays hn); clear hn c0 c1 c2 c3 hz)
              | (go_at_call 70; (refine (HN1.out _).mono ?_); rintro e wn3 ⟨rfl, hn⟩; have HV4 := hid (HV3.out.stays hn); have hz4 := HV4.out.cb.size; clear hn)
              | (at_builtin; obtain ⟨i0, HIN'⟩ := HIN.out; refine wpList_append_lies _ rfl _ _ 22 rfl (w.heap.size + 1) 3 i0 (.int .i64 0) 1 8 Tryd.underlying22 HIN'.1 HIN'.2.1 HIN'.2.2.1 HIN'.2.2.2 rfl (by decide) _ _ _ rfl (HV4.out.row.alloc _) ⟨wn3.heap.size, 0, none⟩ 1 1 [.int .i64 (8 * t + k : Nat)] rfl rfl ?c1 ?c2 (by decide) ?c3 ?c4 ?c5 (wn3.heap.size + 1) (by simp) ?_))
            case c1 =>
              intro j u hj
              match j, hj with
              | 0, hj => simp at hj; subst hj; simp [Addr.add]
            case c2 => intro u hu; simp at hu; subst hu; rfl
            case c3 => unfold maxLen; omega
            case c4 => omega
            case c5 => simp; omega
            intro g2 cap2 w6 hown hgrow hat hlt6
            have HV6 := hid (HV4.out.app (x := 8 * t + k) HHH.out hown _ hgrow)
            clear hown hgrow hat hlt6
            go_wp2_with fail
            go_roundw
            case rel => exact ⟨k + 1, by omega, by go_num, hid (by rw [rwk_yes HB.out.symm, ← List.append_assoc, ← HLL.out]; exact HV6.out)⟩
            case measure => simp [intOf]; omega
        · obtain rfl : k = 6 := by omega
          go_wp2_with fail
          go_roundw
          case rel => exact ⟨t + 1, by omega, by go_num, HV⟩
          case measure => simp [intOf]; omega
    · obtain rfl : t = d.n := by omega
      obtain ⟨la, lc, rfl⟩ := slice_of_row HV.out.row
      go_wp2_with fail
      go_ret
      exact ⟨la, lc, rfl, row_mono HV.out.row (by omega), HV.out.below⟩
end Go.Proofs.YtbfpcolkbfljoaaDoor
