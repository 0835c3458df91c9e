/-
  The walk of the law on what hangs together.
-/
import Derived.Test.YtaepiegbpgkciaaKnown
import Derived.Test.YtaepiegbpgkciaaLawNext
import Derived.Test.YtaepiegbpgkciaaWalkParts
namespace Go.Proofs.Ytaepiegbpgkciaa
open Go.RowKit

/-- What a region of reads and calls keeps: the box of the streets, and two cells of a list. -/
theorem hang_keep {W H : Int} {ao bo : Option Addr} {n cap m bcap : Nat} {Z Y : Nat → Int} {w a b : World} {X g t u : Nat} {v x : Int} (h : SB W H ao n cap Z bo m bcap Y w a ∧ a.cell? ⟨X, 0, none⟩ = some (.int .i64 W) ∧ a.cell? ⟨X, 1, none⟩ = some (.int .i64 H) ∧ a.cell? ⟨g, t, none⟩ = some (.int .i64 v) ∧ a.cell? ⟨g, u, none⟩ = some (.int .i64 x)) (hb : Below a.heap.size a b) :
    SB W H ao n cap Z bo m bcap Y w b ∧ b.cell? ⟨X, 0, none⟩ = some (.int .i64 W) ∧ b.cell? ⟨X, 1, none⟩ = some (.int .i64 H) ∧ b.cell? ⟨g, t, none⟩ = some (.int .i64 v) ∧ b.cell? ⟨g, u, none⟩ = some (.int .i64 x) := by
  obtain ⟨h, h0, h1, h2, h3⟩ := h
  exact ⟨h.stays hb, (hb.cell (p := ⟨X, 0, none⟩) (lt_of_cell h0)).trans h0, (hb.cell (p := ⟨X, 1, none⟩) (lt_of_cell h1)).trans h1, (hb.cell (p := ⟨g, t, none⟩) (lt_of_cell h2)).trans h2, (hb.cell (p := ⟨g, u, none⟩) (lt_of_cell h3)).trans h3⟩

set_option maxHeartbeats 6400000 in
theorem walk_hangs (Wd Hd : Int) (ao : Option Addr) (n cap : Nat) (Z : Nat → Int) (bo : Option Addr) (m bcap : Nat) (Y : Nat → Int) (hn : n ≤ 9223372036854775807) (hm : m ≤ 9223372036854775807) (t s : Int) (w : World) (hI : Ints w ao n Z) (hB : Ints w bo m Y) :
    Calls Try.prog 12 #[rv Wd Hd (.slice ao n cap) (.slice bo m bcap), .int .i64 t, .int .i64 s] w fun r w' => r = .returned (.bool true) ∧ Below w.heap.size w w' := by
  obtain ⟨b, e, he⟩ := JIs.ex Wd Hd n m Z Y t s
  obtain ⟨f, hf0⟩ := VErr.ex Wd Hd n m Z Y
  have HE := hid he
  have HF0 := hid hf0
  have HS := hid (sb_start (W := Wd) (H := Hd) (cap := cap) (bcap := bcap) hI hB)
  clear hI hB he hf0
  obtain ⟨X, hX⟩ : ∃ X, X = w.heap.size := ⟨_, rfl⟩
  have HX := hid hX
  by_cases hf : Far n m
  · have HF := hid hf
    clear hf
    go_enter Try.func12, Try.ntmps12
    go_wp2_with fail
    refine (far_yes Wd Hd ao n cap bo m bcap hn hm HF.out _).mono ?_
    rintro r w1 ⟨rfl, hb1⟩
    have HS1 := hid (HS.out.stays hb1)
    clear hb1
    go_wp2_with fail
    refine (known_any _).mono ?_
    rintro r w2 ⟨rfl, hb2⟩
    have HS2 := hid (HS1.out.stays hb2)
    clear hb2
    go_wp2_with fail
    go_ret
    exact ⟨rfl, HS2.out.below⟩
  · have HF : Hid (n ≤ 4000 ∧ m ≤ 4000) := hid (by unfold Far at hf; omega)
    clear hf
    by_cases hf0 : f = 0
    · subst hf0
      have hR : Right Wd Hd n m Z Y := by
        rcases HF0.out with ⟨_, h⟩ | h
        · exact h
        · simp at h
      obtain rfl : n = m := hR.eq
      have HR := hid hR
      obtain ⟨n16, n1024⟩ := hR.small
      clear hR
      go_enter Try.func12, Try.ntmps12
      go_wp2_with fail
      refine (far_no Wd Hd ao n cap bo n bcap HF.out _).mono ?_
      rintro r w1 ⟨rfl, hb1⟩
      have HS1 := hid (HS.out.stays hb1)
      obtain ⟨c0, c1, c2, c3, hz1⟩ := HS1.out.at HX.out
      simp only [← hX] at c0 c1 c2 c3 ⊢
      clear hb1 HS hX
      go_wp2_with fail
      refine (parts_to Wd Hd ao n cap Z bo n bcap Y hn hm 0 HF0.out _ HS1.out.arms HS1.out.ways).mono ?_
      rintro r w2 ⟨hb2, (⟨h, _⟩ | ⟨_, g, P, rfl, hrow, hp⟩)⟩
      · exact absurd rfl h
      have HS2 := hid (HS1.out.stays hb2)
      have HP := hid hp
      have HROW := hid hrow
      obtain ⟨c0, c1, c2, c3, hz2⟩ := HS2.out.at HX.out
      clear hb2 HS1 hz1 hrow hp
      go_wp2_with fail
      go_loopw [37] (fun iv wr => ∃ i : Nat, i ≤ n ∧ iv = .int .i64 i ∧ wr = w2) (fun iv _ => n - (intOf iv).toNat)
      case atStart => exact ⟨0, by omega, rfl, rfl⟩
      case round =>
        obtain ⟨i, hi, rfl, rfl⟩ := hrel
        by_cases hlt : i < n
        · have in0 : (0 : Int) ≤ (i : Int) := by omega
          have in1 : (i : Int) < (n : Int) := by omega
          have hiw : IntKind.i64.wrap ((i : Int) + 1) = ((i + 1 : Nat) : Int) := by rw [IntKind.wrap_i64]; omega
          obtain ⟨ba, ga, rfl, haz, ca⟩ := ints_cell HS2.out.arms hlt
          have cp := (HROW.out.cellAt i (by omega)).trans (vals_get _ hlt)
          simp only [iv] at cp
          have hgz := (HROW.out.lt g rfl).2
          obtain ⟨z, hz⟩ : ∃ z, z = Z i := ⟨_, rfl⟩
          obtain ⟨p, hp⟩ : ∃ p, p = P i := ⟨_, rfl⟩
          rw [← hz] at ca
          rw [← hp] at cp
          have hz' := hz
          by_cases hz0 : z = 0
          · have hpm : p = -1 := by rw [hp]; exact (HP.out i hlt).1 (by rw [← hz]; exact hz0)
            have q1 : decide (p < 0) = true := decide_eq_true (by omega)
            have q2 : (z == 0) = true := by simpa using hz0
            have q3 : decide ((i : Int) < p) = false := decide_eq_false (by omega)
            have q4 : decide (0 ≤ p) = false := decide_eq_false (by omega)
            clear hpm hz0 hz hp hz'
            go_wp2_with fail
            go_roundw
            case rel => exact ⟨i + 1, by omega, by first | rfl | simp only [hiw], trivial⟩
            case measure => simp only [intOf]; omega
          · obtain ⟨q, hq, hq1, _⟩ := (HP.out i hlt).2 (by rw [← hz]; exact hz0)
            have hqr := HP.out.root HR.out.sized HR.out.args.arms hlt hq
            have cq := (HROW.out.cellAt q (by omega)).trans (vals_get _ hqr.1)
            simp only [iv] at cq
            rw [hqr.2] at cq
            have hpq : p = q := by rw [hp]; exact hq
            subst hpq
            have qn1 : (q : Int) < (n : Int) := by omega
            have q1 : decide ((q : Int) < 0) = false := decide_eq_false (by omega)
            have q2 : (z == 0) = false := by simpa using hz0
            have q3 : decide ((i : Int) < (q : Int)) = false := decide_eq_false (by omega)
            have q3' : decide (i < q) = false := decide_eq_false (by omega)
            have q4 : decide ((0 : Int) ≤ (q : Int)) = true := decide_eq_true (by omega)
            clear hqr hq hq1 hz0 hz hp hz'
            go_wp2_with fail
            go_roundw
            case rel => exact ⟨i + 1, by omega, by first | rfl | simp only [hiw], trivial⟩
            case measure => simp only [intOf]; omega
        · obtain rfl : i = n := by omega
          go_wp2_with fail
          refine (joined_to Wd Hd ao i cap Z bo i bcap Y hn hm t s b e HE.out _ HS2.out.arms HS2.out.ways).mono ?_
          rintro r w3 ⟨rfl, hb3⟩
          have HS3 := hid (HS2.out.stays hb3)
          have HROW3 := hid (row_stays HROW.out hb3)
          obtain ⟨c0, c1, c2, c3, hz3⟩ := HS3.out.at HX.out
          clear hb3 HS2 HROW hz2
          by_cases hb : b = true
          · subst hb
            obtain ⟨hRR, ht, hs0, hs3, hb1⟩ := joined_yes HE.out
            obtain ⟨k, hk, hkn, hback⟩ := joined_back hRR ht hs0 hs3 hb1
            have he0 : e = 0 := by
              rcases Int.lt_trichotomy e 0 with h | h | h
              · exact absurd (HE.out.2.1 (by omega)) (by decide)
              · exact h
              · exact absurd (HE.out.2.1 (by omega)) (by decide)
            subst he0
            obtain ⟨tn, rfl⟩ := Int.eq_ofNat_of_zero_le ht.1
            obtain ⟨kn, rfl⟩ := Int.eq_ofNat_of_zero_le hkn.1
            have htn : tn < i := by omega
            have hkn' : kn < i := by omega
            have hsame : P tn = P kn := HP.out.same HR.out.sized HR.out.args.arms htn ⟨s, hs0, hs3, by rw [(met_yes hb1).1, hk]⟩
            have ct := (HROW3.out.cellAt tn (by omega)).trans (vals_get _ htn)
            have ck := (HROW3.out.cellAt kn (by omega)).trans (vals_get _ hkn')
            simp only [iv] at ct ck
            rw [← hsame] at ck
            obtain ⟨v, hv⟩ : ∃ v, v = P tn := ⟨_, rfl⟩
            rw [← hv] at ct ck
            have hgz := (HROW3.out.lt g rfl).2
            have HSz := hid HR.out.sized
            have HK := hid hk
            have HTW : Hid ((tn : Int) < Wd * Hd) := hid (by have := HR.out.args.arms; omega)
            have t0 : (0 : Int) ≤ (tn : Int) := by omega
            have t1 : (tn : Int) < (i : Int) := by omega
            have k0 : (0 : Int) ≤ (kn : Int) := by omega
            have k1 : (kn : Int) < (i : Int) := by omega
            clear hRR ht hkn hback hb1 hk hsame hv
            go_wp2_with fail
            go_region_held3 (fun w' => SB Wd Hd ao i cap Z bo i bcap Y w w' ∧ w'.cell? ⟨X, 0, none⟩ = some (.int .i64 Wd) ∧ w'.cell? ⟨X, 1, none⟩ = some (.int .i64 Hd) ∧ w'.cell? ⟨g, tn, none⟩ = some (.int .i64 v) ∧ w'.cell? ⟨g, kn, none⟩ = some (.int .i64 v))
              (first
                | exact hang_keep ⟨HS3.out, by assumption, by assumption, by assumption, by assumption⟩ ((Below.refl _ _).drew)
                | exact hang_keep (by assumption) hb
                | exact hang_keep (by assumption) (Below.refl _ _)
                | assumption)
              (first
                | (go_at_call 31; (refine (refbeyond_any Wd Hd tn s kn HSz.out t0 HTW.out hs0 hs3 HK.out _).mono ?_); rintro r w6 ⟨rfl, hb⟩)
                | (go_at_call 16; (refine (known_any _).mono ?_); rintro r w7 ⟨rfl, hb⟩))
            all_goals go_wp2_with fail
            all_goals go_ret
            all_goals exact ⟨rfl, sb_below (by assumption)⟩
          · have hb0 : b = false := by cases b <;> simp_all
            subst hb0
            clear hb
            cases he : (e != 0)
            · go_wp2_with fail
              refine wp_region_held_drew (S := (fun _ => True)) (by kernel_rfl) (trivial) (fun hHeld => ?_)
              refine wpAnyH_take (i := 0) (oi := { dst := some 76, op := Op.move (Operand.tmp 12), type := 27, pos := "law.go:139", after := #[], guard := none }) (v := ?_) rfl (by kernel_rfl) (by kernel_rfl) (by kernel_rfl) (fun _ _ _ h => h) (Or.inl ⟨by rfl, ?_⟩) (by assumption) ?_
              rotate_left
              · intro w hSw; (try dsimp only at hSw); go_simp; try (with_reducible rfl)
              try simp only [Act.put, List.setIfInBounds_toArray, List.set_cons_zero, List.set_cons_succ]
              refine wpAnyH_take (i := 1) (oi := { dst := some 77, op := Op.binOp BinOp.neq 27 (Operand.tmp 76) (Operand.const (Value.int IntKind.i64 0)) 27, type := 4, pos := "law.go:139", after := #[{ on := 0, ground := Ground.data }], guard := none }) (v := ?_) rfl (by kernel_rfl) (by kernel_rfl) (by kernel_rfl) (fun _ _ _ h => h) (Or.inl ⟨by rfl, ?_⟩) (by assumption) ?_
              rotate_left
              · intro w hSw; (try dsimp only at hSw); go_simp; try (with_reducible rfl)
              try simp only [Act.put, List.setIfInBounds_toArray, List.set_cons_zero, List.set_cons_succ]
              refine wpAnyH_take (i := 2) (oi := { dst := some 78, op := Op.move (Operand.tmp 77), type := 4, pos := "law.go:139", after := #[{ on := 1, ground := Ground.data }], guard := none }) (v := ?_) rfl (by kernel_rfl) (by kernel_rfl) (by kernel_rfl) (fun _ _ _ h => h) (Or.inl ⟨by rfl, ?_⟩) (by assumption) ?_
              rotate_left
              · intro w hSw; (try dsimp only at hSw); go_simp; try (with_reducible rfl)
              try simp only [Act.put, List.setIfInBounds_toArray, List.set_cons_zero, List.set_cons_succ]
              refine wpAnyH_take (i := 3) (oi := { dst := some 79, op := Op.move (Operand.tmp 11), type := 4, pos := "law.go:139", after := #[{ on := 2, ground := Ground.guard }], guard := some (2, false) }) (v := ?_) rfl (by kernel_rfl) (by kernel_rfl) (by kernel_rfl) (fun _ _ _ h => h) (Or.inl ⟨by rfl, ?_⟩) (by assumption) ?_
              rotate_left
              · intro w hSw; (try dsimp only at hSw); go_simp; try (with_reducible rfl)
              try simp only [Act.put, List.setIfInBounds_toArray, List.set_cons_zero, List.set_cons_succ]
              refine wpAnyH_take (i := 4) (oi := { dst := some 80, op := Op.unOp UnOp.not 4 (Operand.tmp 79), type := 4, pos := "law.go:139", after := #[{ on := 3, ground := Ground.data }, { on := 2, ground := Ground.guard }], guard := some (2, false) }) (v := ?_) rfl (by kernel_rfl) (by kernel_rfl) (by kernel_rfl) (fun _ _ _ h => h) (Or.inl ⟨by rfl, ?_⟩) (by assumption) ?_
              rotate_left
              · intro w hSw; (try dsimp only at hSw); go_simp; try (with_reducible rfl)
              try simp only [Act.put, List.setIfInBounds_toArray, List.set_cons_zero, List.set_cons_succ]
              refine wpAnyH_take (i := 5) (oi := { dst := some 81, op := Op.pick (Operand.tmp 78) (Operand.const (Value.bool true)) (Operand.tmp 80), type := 4, pos := "law.go:139", after := #[{ on := 2, ground := Ground.data }, { on := 4, ground := Ground.data }], guard := none }) (v := ?_) rfl (by kernel_rfl) (by kernel_rfl) (by kernel_rfl) (fun _ _ _ h => h) (Or.inl ⟨by rfl, ?_⟩) (by assumption) ?_
              rotate_left
              · intro w hSw; (try dsimp only at hSw); go_simp; try (with_reducible rfl)
              try simp only [Act.put, List.setIfInBounds_toArray, List.set_cons_zero, List.set_cons_succ]
              refine wpAnyH_take (i := 6) (oi := { dst := some 82, op := Op.move (Operand.tmp 81), type := 4, pos := "law.go:139", after := #[{ on := 5, ground := Ground.data }, { on := 2, ground := Ground.chain }], guard := none }) (v := ?_) rfl (by kernel_rfl) (by kernel_rfl) (by kernel_rfl) (fun _ _ _ h => h) (Or.inl ⟨by rfl, ?_⟩) (by assumption) ?_
              rotate_left
              · intro w hSw; (try dsimp only at hSw); go_simp; try (with_reducible rfl)
              try simp only [Act.put, List.setIfInBounds_toArray, List.set_cons_zero, List.set_cons_succ]
              refine wpAnyH_take (i := 7) (oi := { dst := some 83, op := Op.move (Operand.tmp 7), type := 22, pos := "law.go:139", after := #[{ on := 6, ground := Ground.guard }], guard := some (6, false) }) (v := undef) rfl (by kernel_rfl) (by kernel_rfl) (by kernel_rfl) (fun _ _ _ h => h) (Or.inr ⟨by rfl, rfl⟩) (by assumption) ?_
              try simp only [Act.put, List.setIfInBounds_toArray, List.set_cons_zero, List.set_cons_succ]
              refine wpAnyH_take (i := 8) (oi := { dst := some 84, op := Op.move (Operand.tmp 1), type := 3, pos := "law.go:139", after := #[{ on := 6, ground := Ground.guard }], guard := some (6, false) }) (v := undef) rfl (by kernel_rfl) (by kernel_rfl) (by kernel_rfl) (fun _ _ _ h => h) (Or.inr ⟨by rfl, rfl⟩) (by assumption) ?_
              try simp only [Act.put, List.setIfInBounds_toArray, List.set_cons_zero, List.set_cons_succ]
              refine wpAnyH_take (i := 9) (oi := { dst := some 85, op := Op.indexAddr 22 (Operand.tmp 83) (Operand.tmp 84), type := 0, pos := "law.go:139", after := #[{ on := 7, ground := Ground.data }, { on := 8, ground := Ground.data }, { on := 6, ground := Ground.guard }], guard := some (6, false) }) (v := undef) rfl (by kernel_rfl) (by kernel_rfl) (by kernel_rfl) (fun _ _ _ h => h) (Or.inr ⟨by rfl, rfl⟩) (by assumption) ?_
              try simp only [Act.put, List.setIfInBounds_toArray, List.set_cons_zero, List.set_cons_succ]
              refine wpAnyH_take (i := 10) (oi := { dst := some 86, op := Op.load 3 (Operand.tmp 85), type := 3, pos := "law.go:139", after := #[{ on := 9, ground := Ground.data }, { on := 6, ground := Ground.guard }], guard := some (6, false) }) (v := undef) rfl (by kernel_rfl) (by kernel_rfl) (by kernel_rfl) (fun _ _ _ h => h) (Or.inr ⟨by rfl, rfl⟩) (by assumption) ?_
              try simp only [Act.put, List.setIfInBounds_toArray, List.set_cons_zero, List.set_cons_succ]
              refine wpAnyH_take (i := 11) (oi := { dst := some 87, op := Op.move (Operand.tmp 7), type := 22, pos := "law.go:139", after := #[{ on := 6, ground := Ground.guard }], guard := some (6, false) }) (v := undef) rfl (by kernel_rfl) (by kernel_rfl) (by kernel_rfl) (fun _ _ _ h => h) (Or.inr ⟨by rfl, rfl⟩) (by assumption) ?_
              try simp only [Act.put, List.setIfInBounds_toArray, List.set_cons_zero, List.set_cons_succ]
              refine wpAnyH_take (i := 12) (oi := { dst := some 88, op := Op.fieldAddr 24 (Operand.tmp 3) 0, type := 0, pos := "law.go:139", after := #[{ on := 6, ground := Ground.guard }], guard := some (6, false) }) (v := undef) rfl (by kernel_rfl) (by kernel_rfl) (by kernel_rfl) (fun _ _ _ h => h) (Or.inr ⟨by rfl, rfl⟩) (by assumption) ?_
              try simp only [Act.put, List.setIfInBounds_toArray, List.set_cons_zero, List.set_cons_succ]
              refine wpAnyH_take (i := 13) (oi := { dst := some 89, op := Op.load 3 (Operand.tmp 88), type := 3, pos := "law.go:139", after := #[{ on := 12, ground := Ground.data }, { on := 6, ground := Ground.guard }], guard := some (6, false) }) (v := undef) rfl (by kernel_rfl) (by kernel_rfl) (by kernel_rfl) (fun _ _ _ h => h) (Or.inr ⟨by rfl, rfl⟩) (by assumption) ?_
              try simp only [Act.put, List.setIfInBounds_toArray, List.set_cons_zero, List.set_cons_succ]
              refine wpAnyH_take (i := 14) (oi := { dst := some 90, op := Op.fieldAddr 24 (Operand.tmp 3) 1, type := 0, pos := "law.go:139", after := #[{ on := 6, ground := Ground.guard }], guard := some (6, false) }) (v := undef) rfl (by kernel_rfl) (by kernel_rfl) (by kernel_rfl) (fun _ _ _ h => h) (Or.inr ⟨by rfl, rfl⟩) (by assumption) ?_
              try simp only [Act.put, List.setIfInBounds_toArray, List.set_cons_zero, List.set_cons_succ]
              refine wpAnyH_take (i := 15) (oi := { dst := some 91, op := Op.load 3 (Operand.tmp 90), type := 3, pos := "law.go:139", after := #[{ on := 14, ground := Ground.data }, { on := 6, ground := Ground.guard }], guard := some (6, false) }) (v := undef) rfl (by kernel_rfl) (by kernel_rfl) (by kernel_rfl) (fun _ _ _ h => h) (Or.inr ⟨by rfl, rfl⟩) (by assumption) ?_
              try simp only [Act.put, List.setIfInBounds_toArray, List.set_cons_zero, List.set_cons_succ]
              refine wpAnyH_take (i := 16) (oi := { dst := some 92, op := Op.move (Operand.tmp 1), type := 3, pos := "law.go:139", after := #[{ on := 6, ground := Ground.guard }], guard := some (6, false) }) (v := undef) rfl (by kernel_rfl) (by kernel_rfl) (by kernel_rfl) (fun _ _ _ h => h) (Or.inr ⟨by rfl, rfl⟩) (by assumption) ?_
              try simp only [Act.put, List.setIfInBounds_toArray, List.set_cons_zero, List.set_cons_succ]
              refine wpAnyH_take (i := 17) (oi := { dst := some 93, op := Op.move (Operand.tmp 2), type := 3, pos := "law.go:139", after := #[{ on := 6, ground := Ground.guard }], guard := some (6, false) }) (v := undef) rfl (by kernel_rfl) (by kernel_rfl) (by kernel_rfl) (fun _ _ _ h => h) (Or.inr ⟨by rfl, rfl⟩) (by assumption) ?_
              try simp only [Act.put, List.setIfInBounds_toArray, List.set_cons_zero, List.set_cons_succ]
              refine wpAnyH_take (i := 18) (oi := { dst := some 94, op := Op.call { callee := Callee.value (Operand.func 31), args := #[Operand.tmp 89, Operand.tmp 91, Operand.tmp 92, Operand.tmp 93], argTypes := #[3, 3, 3, 3] }, type := 3, pos := "law.go:139", after := #[{ on := 13, ground := Ground.data }, { on := 15, ground := Ground.data }, { on := 16, ground := Ground.data }, { on := 17, ground := Ground.data }, { on := 6, ground := Ground.chain }, { on := 6, ground := Ground.guard }], guard := some (6, false) }) (v := undef) rfl (by kernel_rfl) (by kernel_rfl) (by kernel_rfl) (fun _ _ _ h => h) (Or.inr ⟨by rfl, rfl⟩) (by assumption) ?_
              try simp only [Act.put, List.setIfInBounds_toArray, List.set_cons_zero, List.set_cons_succ]
              refine wpAnyH_take (i := 19) (oi := { dst := some 95, op := Op.indexAddr 22 (Operand.tmp 87) (Operand.tmp 94), type := 0, pos := "law.go:139", after := #[{ on := 11, ground := Ground.data }, { on := 18, ground := Ground.data }, { on := 6, ground := Ground.guard }], guard := some (6, false) }) (v := undef) rfl (by kernel_rfl) (by kernel_rfl) (by kernel_rfl) (fun _ _ _ h => h) (Or.inr ⟨by rfl, rfl⟩) (by assumption) ?_
              try simp only [Act.put, List.setIfInBounds_toArray, List.set_cons_zero, List.set_cons_succ]
              refine wpAnyH_take (i := 20) (oi := { dst := some 96, op := Op.load 3 (Operand.tmp 95), type := 3, pos := "law.go:139", after := #[{ on := 19, ground := Ground.data }, { on := 6, ground := Ground.guard }], guard := some (6, false) }) (v := undef) rfl (by kernel_rfl) (by kernel_rfl) (by kernel_rfl) (fun _ _ _ h => h) (Or.inr ⟨by rfl, rfl⟩) (by assumption) ?_
              try simp only [Act.put, List.setIfInBounds_toArray, List.set_cons_zero, List.set_cons_succ]
              refine wpAnyH_take (i := 21) (oi := { dst := some 97, op := Op.binOp BinOp.eql 3 (Operand.tmp 86) (Operand.tmp 96) 3, type := 4, pos := "law.go:139", after := #[{ on := 10, ground := Ground.data }, { on := 20, ground := Ground.data }, { on := 6, ground := Ground.guard }], guard := some (6, false) }) (v := undef) rfl (by kernel_rfl) (by kernel_rfl) (by kernel_rfl) (fun _ _ _ h => h) (Or.inr ⟨by rfl, rfl⟩) (by assumption) ?_
              try simp only [Act.put, List.setIfInBounds_toArray, List.set_cons_zero, List.set_cons_succ]
              refine wpAnyH_take (i := 22) (oi := { dst := some 98, op := Op.pick (Operand.tmp 82) (Operand.const (Value.bool true)) (Operand.tmp 97), type := 4, pos := "law.go:139", after := #[{ on := 6, ground := Ground.data }, { on := 21, ground := Ground.data }], guard := none }) (v := ?_) rfl (by kernel_rfl) (by kernel_rfl) (by kernel_rfl) (fun _ _ _ h => h) (Or.inl ⟨by rfl, ?_⟩) (by assumption) ?_
              rotate_left
              · intro w hSw; (try dsimp only at hSw); go_simp; try (with_reducible rfl)
              try simp only [Act.put, List.setIfInBounds_toArray, List.set_cons_zero, List.set_cons_succ]
              refine wpAnyH_take (i := 23) (oi := { dst := some 99, op := Op.move (Operand.tmp 98), type := 4, pos := "law.go:139", after := #[{ on := 22, ground := Ground.data }, { on := 18, ground := Ground.chain }], guard := none }) (v := ?_) rfl (by kernel_rfl) (by kernel_rfl) (by kernel_rfl) (fun _ _ _ h => h) (Or.inl ⟨by rfl, ?_⟩) (by assumption) ?_
              rotate_left
              · intro w hSw; (try dsimp only at hSw); go_simp; try (with_reducible rfl)
              try simp only [Act.put, List.setIfInBounds_toArray, List.set_cons_zero, List.set_cons_succ]
              refine wpAnyH_ready (rs := [24]) (by kernel_rfl) (by simp) ?_
              refine AllReadyH.cons (o := { dst := some 100, op := Op.call { callee := Callee.value (Operand.func 16), args := #[], argTypes := #[] }, type := 4, pos := "law.go:139", after := #[{ on := 23, ground := Ground.chain }, { on := 23, ground := Ground.guard }], guard := some (23, true) }) rfl (fun K hK => ?_) AllReadyH.nil
              go_simp
              refine (known_any _).mono ?_
              rintro r w9 ⟨rfl, hb9⟩
              try go_wp2_with fail
              refine hK.out _ _ (trivial) (fun hHeld2 => ?_)
              clear hK K
              try simp only [Act.put, List.setIfInBounds_toArray, List.set_cons_zero, List.set_cons_succ]
              refine wpAnyH_take (i := 25) (oi := { dst := some 101, op := Op.pick (Operand.tmp 99) (Operand.tmp 100) (Operand.const (Value.bool false)), type := 4, pos := "law.go:139", after := #[{ on := 23, ground := Ground.data }, { on := 24, ground := Ground.data }], guard := none }) (v := ?_) rfl (by kernel_rfl) (by kernel_rfl) (by kernel_rfl) (fun _ _ _ h => h) (Or.inl ⟨by rfl, ?_⟩) (by assumption) ?_
              rotate_left
              · intro w hSw; (try dsimp only at hSw); go_simp; try (with_reducible rfl)
              try simp only [Act.put, List.setIfInBounds_toArray, List.set_cons_zero, List.set_cons_succ]
              refine wpAnyH_take (i := 26) (oi := { dst := some 6, op := Op.assign (Operand.tmp 101), type := 4, pos := "law.go:139", after := #[{ on := 25, ground := Ground.data }, { on := 24, ground := Ground.chain }, { on := 0, ground := Ground.phase }, { on := 1, ground := Ground.phase }, { on := 2, ground := Ground.phase }, { on := 3, ground := Ground.phase }, { on := 4, ground := Ground.phase }, { on := 5, ground := Ground.phase }, { on := 6, ground := Ground.phase }, { on := 7, ground := Ground.phase }, { on := 8, ground := Ground.phase }, { on := 9, ground := Ground.phase }, { on := 10, ground := Ground.phase }, { on := 11, ground := Ground.phase }, { on := 12, ground := Ground.phase }, { on := 13, ground := Ground.phase }, { on := 14, ground := Ground.phase }, { on := 15, ground := Ground.phase }, { on := 16, ground := Ground.phase }, { on := 17, ground := Ground.phase }, { on := 18, ground := Ground.phase }, { on := 19, ground := Ground.phase }, { on := 20, ground := Ground.phase }, { on := 21, ground := Ground.phase }, { on := 22, ground := Ground.phase }, { on := 23, ground := Ground.phase }, { on := 24, ground := Ground.phase }, { on := 25, ground := Ground.phase }], guard := none }) (v := ?_) rfl (by kernel_rfl) (by kernel_rfl) (by kernel_rfl) (fun _ _ _ h => h) (Or.inl ⟨by rfl, ?_⟩) (by assumption) ?_
              rotate_left
              · intro w hSw; (try dsimp only at hSw); go_simp; try (with_reducible rfl)
              try simp only [Act.put, List.setIfInBounds_toArray, List.set_cons_zero, List.set_cons_succ]
              refine wpAnyH_done (by kernel_rfl) ?_ _
              go_wp2_with fail
              go_ret
              exact ⟨rfl, step (HS3.out.below).drew hb9⟩
            · go_wp2_with fail
              refine wp_region_held_drew (S := (fun _ => True)) (by kernel_rfl) (trivial) (fun hHeld => ?_)
              refine wpAnyH_take (i := 0) (oi := { dst := some 76, op := Op.move (Operand.tmp 12), type := 27, pos := "law.go:139", after := #[], guard := none }) (v := ?_) rfl (by kernel_rfl) (by kernel_rfl) (by kernel_rfl) (fun _ _ _ h => h) (Or.inl ⟨by rfl, ?_⟩) (by assumption) ?_
              rotate_left
              · intro w hSw; (try dsimp only at hSw); go_simp; try (with_reducible rfl)
              try simp only [Act.put, List.setIfInBounds_toArray, List.set_cons_zero, List.set_cons_succ]
              refine wpAnyH_take (i := 1) (oi := { dst := some 77, op := Op.binOp BinOp.neq 27 (Operand.tmp 76) (Operand.const (Value.int IntKind.i64 0)) 27, type := 4, pos := "law.go:139", after := #[{ on := 0, ground := Ground.data }], guard := none }) (v := ?_) rfl (by kernel_rfl) (by kernel_rfl) (by kernel_rfl) (fun _ _ _ h => h) (Or.inl ⟨by rfl, ?_⟩) (by assumption) ?_
              rotate_left
              · intro w hSw; (try dsimp only at hSw); go_simp; try (with_reducible rfl)
              try simp only [Act.put, List.setIfInBounds_toArray, List.set_cons_zero, List.set_cons_succ]
              refine wpAnyH_take (i := 2) (oi := { dst := some 78, op := Op.move (Operand.tmp 77), type := 4, pos := "law.go:139", after := #[{ on := 1, ground := Ground.data }], guard := none }) (v := ?_) rfl (by kernel_rfl) (by kernel_rfl) (by kernel_rfl) (fun _ _ _ h => h) (Or.inl ⟨by rfl, ?_⟩) (by assumption) ?_
              rotate_left
              · intro w hSw; (try dsimp only at hSw); go_simp; try (with_reducible rfl)
              try simp only [Act.put, List.setIfInBounds_toArray, List.set_cons_zero, List.set_cons_succ]
              refine wpAnyH_take (i := 3) (oi := { dst := some 79, op := Op.move (Operand.tmp 11), type := 4, pos := "law.go:139", after := #[{ on := 2, ground := Ground.guard }], guard := some (2, false) }) (v := undef) rfl (by kernel_rfl) (by kernel_rfl) (by kernel_rfl) (fun _ _ _ h => h) (Or.inr ⟨by rfl, rfl⟩) (by assumption) ?_
              try simp only [Act.put, List.setIfInBounds_toArray, List.set_cons_zero, List.set_cons_succ]
              refine wpAnyH_take (i := 4) (oi := { dst := some 80, op := Op.unOp UnOp.not 4 (Operand.tmp 79), type := 4, pos := "law.go:139", after := #[{ on := 3, ground := Ground.data }, { on := 2, ground := Ground.guard }], guard := some (2, false) }) (v := undef) rfl (by kernel_rfl) (by kernel_rfl) (by kernel_rfl) (fun _ _ _ h => h) (Or.inr ⟨by rfl, rfl⟩) (by assumption) ?_
              try simp only [Act.put, List.setIfInBounds_toArray, List.set_cons_zero, List.set_cons_succ]
              refine wpAnyH_take (i := 5) (oi := { dst := some 81, op := Op.pick (Operand.tmp 78) (Operand.const (Value.bool true)) (Operand.tmp 80), type := 4, pos := "law.go:139", after := #[{ on := 2, ground := Ground.data }, { on := 4, ground := Ground.data }], guard := none }) (v := ?_) rfl (by kernel_rfl) (by kernel_rfl) (by kernel_rfl) (fun _ _ _ h => h) (Or.inl ⟨by rfl, ?_⟩) (by assumption) ?_
              rotate_left
              · intro w hSw; (try dsimp only at hSw); go_simp; try (with_reducible rfl)
              try simp only [Act.put, List.setIfInBounds_toArray, List.set_cons_zero, List.set_cons_succ]
              refine wpAnyH_take (i := 6) (oi := { dst := some 82, op := Op.move (Operand.tmp 81), type := 4, pos := "law.go:139", after := #[{ on := 5, ground := Ground.data }, { on := 2, ground := Ground.chain }], guard := none }) (v := ?_) rfl (by kernel_rfl) (by kernel_rfl) (by kernel_rfl) (fun _ _ _ h => h) (Or.inl ⟨by rfl, ?_⟩) (by assumption) ?_
              rotate_left
              · intro w hSw; (try dsimp only at hSw); go_simp; try (with_reducible rfl)
              try simp only [Act.put, List.setIfInBounds_toArray, List.set_cons_zero, List.set_cons_succ]
              refine wpAnyH_take (i := 7) (oi := { dst := some 83, op := Op.move (Operand.tmp 7), type := 22, pos := "law.go:139", after := #[{ on := 6, ground := Ground.guard }], guard := some (6, false) }) (v := undef) rfl (by kernel_rfl) (by kernel_rfl) (by kernel_rfl) (fun _ _ _ h => h) (Or.inr ⟨by rfl, rfl⟩) (by assumption) ?_
              try simp only [Act.put, List.setIfInBounds_toArray, List.set_cons_zero, List.set_cons_succ]
              refine wpAnyH_take (i := 8) (oi := { dst := some 84, op := Op.move (Operand.tmp 1), type := 3, pos := "law.go:139", after := #[{ on := 6, ground := Ground.guard }], guard := some (6, false) }) (v := undef) rfl (by kernel_rfl) (by kernel_rfl) (by kernel_rfl) (fun _ _ _ h => h) (Or.inr ⟨by rfl, rfl⟩) (by assumption) ?_
              try simp only [Act.put, List.setIfInBounds_toArray, List.set_cons_zero, List.set_cons_succ]
              refine wpAnyH_take (i := 9) (oi := { dst := some 85, op := Op.indexAddr 22 (Operand.tmp 83) (Operand.tmp 84), type := 0, pos := "law.go:139", after := #[{ on := 7, ground := Ground.data }, { on := 8, ground := Ground.data }, { on := 6, ground := Ground.guard }], guard := some (6, false) }) (v := undef) rfl (by kernel_rfl) (by kernel_rfl) (by kernel_rfl) (fun _ _ _ h => h) (Or.inr ⟨by rfl, rfl⟩) (by assumption) ?_
              try simp only [Act.put, List.setIfInBounds_toArray, List.set_cons_zero, List.set_cons_succ]
              refine wpAnyH_take (i := 10) (oi := { dst := some 86, op := Op.load 3 (Operand.tmp 85), type := 3, pos := "law.go:139", after := #[{ on := 9, ground := Ground.data }, { on := 6, ground := Ground.guard }], guard := some (6, false) }) (v := undef) rfl (by kernel_rfl) (by kernel_rfl) (by kernel_rfl) (fun _ _ _ h => h) (Or.inr ⟨by rfl, rfl⟩) (by assumption) ?_
              try simp only [Act.put, List.setIfInBounds_toArray, List.set_cons_zero, List.set_cons_succ]
              refine wpAnyH_take (i := 11) (oi := { dst := some 87, op := Op.move (Operand.tmp 7), type := 22, pos := "law.go:139", after := #[{ on := 6, ground := Ground.guard }], guard := some (6, false) }) (v := undef) rfl (by kernel_rfl) (by kernel_rfl) (by kernel_rfl) (fun _ _ _ h => h) (Or.inr ⟨by rfl, rfl⟩) (by assumption) ?_
              try simp only [Act.put, List.setIfInBounds_toArray, List.set_cons_zero, List.set_cons_succ]
              refine wpAnyH_take (i := 12) (oi := { dst := some 88, op := Op.fieldAddr 24 (Operand.tmp 3) 0, type := 0, pos := "law.go:139", after := #[{ on := 6, ground := Ground.guard }], guard := some (6, false) }) (v := undef) rfl (by kernel_rfl) (by kernel_rfl) (by kernel_rfl) (fun _ _ _ h => h) (Or.inr ⟨by rfl, rfl⟩) (by assumption) ?_
              try simp only [Act.put, List.setIfInBounds_toArray, List.set_cons_zero, List.set_cons_succ]
              refine wpAnyH_take (i := 13) (oi := { dst := some 89, op := Op.load 3 (Operand.tmp 88), type := 3, pos := "law.go:139", after := #[{ on := 12, ground := Ground.data }, { on := 6, ground := Ground.guard }], guard := some (6, false) }) (v := undef) rfl (by kernel_rfl) (by kernel_rfl) (by kernel_rfl) (fun _ _ _ h => h) (Or.inr ⟨by rfl, rfl⟩) (by assumption) ?_
              try simp only [Act.put, List.setIfInBounds_toArray, List.set_cons_zero, List.set_cons_succ]
              refine wpAnyH_take (i := 14) (oi := { dst := some 90, op := Op.fieldAddr 24 (Operand.tmp 3) 1, type := 0, pos := "law.go:139", after := #[{ on := 6, ground := Ground.guard }], guard := some (6, false) }) (v := undef) rfl (by kernel_rfl) (by kernel_rfl) (by kernel_rfl) (fun _ _ _ h => h) (Or.inr ⟨by rfl, rfl⟩) (by assumption) ?_
              try simp only [Act.put, List.setIfInBounds_toArray, List.set_cons_zero, List.set_cons_succ]
              refine wpAnyH_take (i := 15) (oi := { dst := some 91, op := Op.load 3 (Operand.tmp 90), type := 3, pos := "law.go:139", after := #[{ on := 14, ground := Ground.data }, { on := 6, ground := Ground.guard }], guard := some (6, false) }) (v := undef) rfl (by kernel_rfl) (by kernel_rfl) (by kernel_rfl) (fun _ _ _ h => h) (Or.inr ⟨by rfl, rfl⟩) (by assumption) ?_
              try simp only [Act.put, List.setIfInBounds_toArray, List.set_cons_zero, List.set_cons_succ]
              refine wpAnyH_take (i := 16) (oi := { dst := some 92, op := Op.move (Operand.tmp 1), type := 3, pos := "law.go:139", after := #[{ on := 6, ground := Ground.guard }], guard := some (6, false) }) (v := undef) rfl (by kernel_rfl) (by kernel_rfl) (by kernel_rfl) (fun _ _ _ h => h) (Or.inr ⟨by rfl, rfl⟩) (by assumption) ?_
              try simp only [Act.put, List.setIfInBounds_toArray, List.set_cons_zero, List.set_cons_succ]
              refine wpAnyH_take (i := 17) (oi := { dst := some 93, op := Op.move (Operand.tmp 2), type := 3, pos := "law.go:139", after := #[{ on := 6, ground := Ground.guard }], guard := some (6, false) }) (v := undef) rfl (by kernel_rfl) (by kernel_rfl) (by kernel_rfl) (fun _ _ _ h => h) (Or.inr ⟨by rfl, rfl⟩) (by assumption) ?_
              try simp only [Act.put, List.setIfInBounds_toArray, List.set_cons_zero, List.set_cons_succ]
              refine wpAnyH_take (i := 18) (oi := { dst := some 94, op := Op.call { callee := Callee.value (Operand.func 31), args := #[Operand.tmp 89, Operand.tmp 91, Operand.tmp 92, Operand.tmp 93], argTypes := #[3, 3, 3, 3] }, type := 3, pos := "law.go:139", after := #[{ on := 13, ground := Ground.data }, { on := 15, ground := Ground.data }, { on := 16, ground := Ground.data }, { on := 17, ground := Ground.data }, { on := 6, ground := Ground.chain }, { on := 6, ground := Ground.guard }], guard := some (6, false) }) (v := undef) rfl (by kernel_rfl) (by kernel_rfl) (by kernel_rfl) (fun _ _ _ h => h) (Or.inr ⟨by rfl, rfl⟩) (by assumption) ?_
              try simp only [Act.put, List.setIfInBounds_toArray, List.set_cons_zero, List.set_cons_succ]
              refine wpAnyH_take (i := 19) (oi := { dst := some 95, op := Op.indexAddr 22 (Operand.tmp 87) (Operand.tmp 94), type := 0, pos := "law.go:139", after := #[{ on := 11, ground := Ground.data }, { on := 18, ground := Ground.data }, { on := 6, ground := Ground.guard }], guard := some (6, false) }) (v := undef) rfl (by kernel_rfl) (by kernel_rfl) (by kernel_rfl) (fun _ _ _ h => h) (Or.inr ⟨by rfl, rfl⟩) (by assumption) ?_
              try simp only [Act.put, List.setIfInBounds_toArray, List.set_cons_zero, List.set_cons_succ]
              refine wpAnyH_take (i := 20) (oi := { dst := some 96, op := Op.load 3 (Operand.tmp 95), type := 3, pos := "law.go:139", after := #[{ on := 19, ground := Ground.data }, { on := 6, ground := Ground.guard }], guard := some (6, false) }) (v := undef) rfl (by kernel_rfl) (by kernel_rfl) (by kernel_rfl) (fun _ _ _ h => h) (Or.inr ⟨by rfl, rfl⟩) (by assumption) ?_
              try simp only [Act.put, List.setIfInBounds_toArray, List.set_cons_zero, List.set_cons_succ]
              refine wpAnyH_take (i := 21) (oi := { dst := some 97, op := Op.binOp BinOp.eql 3 (Operand.tmp 86) (Operand.tmp 96) 3, type := 4, pos := "law.go:139", after := #[{ on := 10, ground := Ground.data }, { on := 20, ground := Ground.data }, { on := 6, ground := Ground.guard }], guard := some (6, false) }) (v := undef) rfl (by kernel_rfl) (by kernel_rfl) (by kernel_rfl) (fun _ _ _ h => h) (Or.inr ⟨by rfl, rfl⟩) (by assumption) ?_
              try simp only [Act.put, List.setIfInBounds_toArray, List.set_cons_zero, List.set_cons_succ]
              refine wpAnyH_take (i := 22) (oi := { dst := some 98, op := Op.pick (Operand.tmp 82) (Operand.const (Value.bool true)) (Operand.tmp 97), type := 4, pos := "law.go:139", after := #[{ on := 6, ground := Ground.data }, { on := 21, ground := Ground.data }], guard := none }) (v := ?_) rfl (by kernel_rfl) (by kernel_rfl) (by kernel_rfl) (fun _ _ _ h => h) (Or.inl ⟨by rfl, ?_⟩) (by assumption) ?_
              rotate_left
              · intro w hSw; (try dsimp only at hSw); go_simp; try (with_reducible rfl)
              try simp only [Act.put, List.setIfInBounds_toArray, List.set_cons_zero, List.set_cons_succ]
              refine wpAnyH_take (i := 23) (oi := { dst := some 99, op := Op.move (Operand.tmp 98), type := 4, pos := "law.go:139", after := #[{ on := 22, ground := Ground.data }, { on := 18, ground := Ground.chain }], guard := none }) (v := ?_) rfl (by kernel_rfl) (by kernel_rfl) (by kernel_rfl) (fun _ _ _ h => h) (Or.inl ⟨by rfl, ?_⟩) (by assumption) ?_
              rotate_left
              · intro w hSw; (try dsimp only at hSw); go_simp; try (with_reducible rfl)
              try simp only [Act.put, List.setIfInBounds_toArray, List.set_cons_zero, List.set_cons_succ]
              refine wpAnyH_ready (rs := [24]) (by kernel_rfl) (by simp) ?_
              refine AllReadyH.cons (o := { dst := some 100, op := Op.call { callee := Callee.value (Operand.func 16), args := #[], argTypes := #[] }, type := 4, pos := "law.go:139", after := #[{ on := 23, ground := Ground.chain }, { on := 23, ground := Ground.guard }], guard := some (23, true) }) rfl (fun K hK => ?_) AllReadyH.nil
              go_simp
              refine (known_any _).mono ?_
              rintro r w9 ⟨rfl, hb9⟩
              try go_wp2_with fail
              refine hK.out _ _ (trivial) (fun hHeld2 => ?_)
              clear hK K
              try simp only [Act.put, List.setIfInBounds_toArray, List.set_cons_zero, List.set_cons_succ]
              refine wpAnyH_take (i := 25) (oi := { dst := some 101, op := Op.pick (Operand.tmp 99) (Operand.tmp 100) (Operand.const (Value.bool false)), type := 4, pos := "law.go:139", after := #[{ on := 23, ground := Ground.data }, { on := 24, ground := Ground.data }], guard := none }) (v := ?_) rfl (by kernel_rfl) (by kernel_rfl) (by kernel_rfl) (fun _ _ _ h => h) (Or.inl ⟨by rfl, ?_⟩) (by assumption) ?_
              rotate_left
              · intro w hSw; (try dsimp only at hSw); go_simp; try (with_reducible rfl)
              try simp only [Act.put, List.setIfInBounds_toArray, List.set_cons_zero, List.set_cons_succ]
              refine wpAnyH_take (i := 26) (oi := { dst := some 6, op := Op.assign (Operand.tmp 101), type := 4, pos := "law.go:139", after := #[{ on := 25, ground := Ground.data }, { on := 24, ground := Ground.chain }, { on := 0, ground := Ground.phase }, { on := 1, ground := Ground.phase }, { on := 2, ground := Ground.phase }, { on := 3, ground := Ground.phase }, { on := 4, ground := Ground.phase }, { on := 5, ground := Ground.phase }, { on := 6, ground := Ground.phase }, { on := 7, ground := Ground.phase }, { on := 8, ground := Ground.phase }, { on := 9, ground := Ground.phase }, { on := 10, ground := Ground.phase }, { on := 11, ground := Ground.phase }, { on := 12, ground := Ground.phase }, { on := 13, ground := Ground.phase }, { on := 14, ground := Ground.phase }, { on := 15, ground := Ground.phase }, { on := 16, ground := Ground.phase }, { on := 17, ground := Ground.phase }, { on := 18, ground := Ground.phase }, { on := 19, ground := Ground.phase }, { on := 20, ground := Ground.phase }, { on := 21, ground := Ground.phase }, { on := 22, ground := Ground.phase }, { on := 23, ground := Ground.phase }, { on := 24, ground := Ground.phase }, { on := 25, ground := Ground.phase }], guard := none }) (v := ?_) rfl (by kernel_rfl) (by kernel_rfl) (by kernel_rfl) (fun _ _ _ h => h) (Or.inl ⟨by rfl, ?_⟩) (by assumption) ?_
              rotate_left
              · intro w hSw; (try dsimp only at hSw); go_simp; try (with_reducible rfl)
              try simp only [Act.put, List.setIfInBounds_toArray, List.set_cons_zero, List.set_cons_succ]
              refine wpAnyH_done (by kernel_rfl) ?_ _
              go_wp2_with fail
              go_ret
              exact ⟨rfl, step (HS3.out.below).drew hb9⟩
    · have f0 : (f != 0) = true := by simpa using hf0
      go_enter Try.func12, Try.ntmps12
      go_wp2_with fail
      refine (far_no Wd Hd ao n cap bo m bcap HF.out _).mono ?_
      rintro r w1 ⟨rfl, hb1⟩
      have HS1 := hid (HS.out.stays hb1)
      obtain ⟨c0, c1, c2, c3, hz1⟩ := HS1.out.at HX.out
      simp only [← hX] at c0 c1 c2 c3 ⊢
      clear hb1 HS hX
      go_wp2_with fail
      refine (parts_to Wd Hd ao n cap Z bo m bcap Y hn hm f HF0.out _ HS1.out.arms HS1.out.ways).mono ?_
      rintro r w2 ⟨hb2, (⟨_, rfl⟩ | ⟨h, _⟩)⟩
      · have HS2 := hid (HS1.out.stays hb2)
        clear hb2 HS1
        go_wp2_with fail
        refine (known_any _).mono ?_
        rintro r w9 ⟨rfl, hb9⟩
        have HS9 := hid (HS2.out.stays hb9)
        clear hb9
        go_wp2_with fail
        go_ret
        exact ⟨rfl, HS9.out.below⟩
      · exact absurd h hf0
end Go.Proofs.Ytaepiegbpgkciaa
