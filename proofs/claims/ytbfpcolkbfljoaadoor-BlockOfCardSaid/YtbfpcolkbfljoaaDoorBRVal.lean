/-
  The walks of less, Has and Validate of the reference, and of far.
-/
import Derived.Test.YtbfpcolkbfljoaaDoorBKn2
import Derived.Test.YtbfpcolkbfljoaaDoorRWalkRVal
namespace Go.Proofs.YtbfpcolkbfljoaaDoor
open Go.RowKit

set_option maxHeartbeats 3200000 in
theorem less_any (s u : Sg) (r : Bool) (hr : r = true ↔ Less s u) (w : World) : Calls Tryd.prog 50 #[sgv s, sgv u] w fun e w' => e = .returned (.bool r) ∧ Below w.heap.size w w' := by
  have HB := hid (Joins.below_alloc2 w (.cells #[.int .i64 s.t, .int .i64 s.p, .int .i64 s.o, .int .i64 s.k] 32) (.cells #[.int .i64 u.t, .int .i64 u.p, .int .i64 u.o, .int .i64 u.k] 32))
  unfold Less Lss at hr
  obtain ⟨t, p, o, k⟩ := s
  obtain ⟨t', p', o', k'⟩ := u
  simp only at hr HB ⊢
  by_cases h1 : t = t'
  · subst h1
    by_cases h2 : p = p'
    · subst h2
      have HR : Hid (r = true ↔ o < o') := hid (by rw [hr]; omega)
      clear hr
      go_enter Tryd.func50, Tryd.ntmps50
      go_wp2_with fail
      go_ret
      exact ⟨ret_bool (by rw [Bool.eq_iff_iff, HR.out]; simp), HB.out⟩
    · have HR : Hid (r = true ↔ p < p') := hid (by rw [hr]; omega)
      have g1 : (p == p') = false := by rw [beq_eq_false_iff_ne]; exact h2
      have g2 : (p != p') = true := by simp [h2]
      clear hr h2
      go_enter Tryd.func50, Tryd.ntmps50
      go_wp2_with fail
      go_ret
      exact ⟨ret_bool (by rw [Bool.eq_iff_iff, HR.out]; simp), HB.out⟩
  · have HR : Hid (r = true ↔ t < t') := hid (by rw [hr]; omega)
    have g1 : (t == t') = false := by rw [beq_eq_false_iff_ne]; exact h1
    have g2 : (t != t') = true := by simp [h1]
    clear hr h1
    go_enter Tryd.func50, Tryd.ntmps50
    go_wp2_with fail
    go_ret
    exact ⟨ret_bool (by rw [Bool.eq_iff_iff, HR.out]; simp), HB.out⟩

theorem oth_ge (p s : Int) : 0 ≤ oth p s ↔ 0 ≤ s ∧ (fst p = s ∨ snd p = s) := by
  constructor
  · intro h
    obtain ⟨_, h0, _, _, ⟨h, _⟩ | ⟨h, _⟩⟩ := oth_yes h
    · exact ⟨h0, .inl h.symm⟩
    · exact ⟨h0, .inr h.symm⟩
  · rintro ⟨h0, h⟩
    have hp : 0 ≤ p ∧ p ≤ 5 := by
      by_cases hp : 0 ≤ p ∧ p ≤ 5
      · exact hp
      · rw [fst_out hp, snd_out hp] at h; omega
    have h1 := fst_in hp.1 hp.2
    have h2 := snd_in hp.1 hp.2
    unfold oth
    rw [if_neg (by omega)]
    split
    · omega
    · rw [if_pos (by omega)]; omega
set_option maxHeartbeats 3200000 in
theorem hasEnd_any (p s : Int) (b : Bool) (hb : b = true ↔ 0 ≤ oth p s) (w : World) : Calls Tryd.prog 51 #[.int .i64 p, .int .i64 s] w fun e w' => e = .returned (.bool b) ∧ Below w.heap.size w w' := by
  rw [oth_ge] at hb
  obtain ⟨x, hx⟩ : ∃ x, x = fst p := ⟨_, rfl⟩
  obtain ⟨y, hy⟩ : ∃ y, y = snd p := ⟨_, rfl⟩
  rw [← hx, ← hy] at hb
  have HX := hid hx
  have HY := hid hy
  have HB := hid hb
  clear hx hy hb
  by_cases h0 : 0 ≤ s
  · by_cases h1 : x = s
    · have hbt : b = true := HB.out.2 ⟨h0, .inl h1⟩
      subst hbt
      have g1 : (x == s) = true := by rw [beq_iff_eq]; exact h1
      clear h1
      go_enter Tryd.func51, Tryd.ntmps51
      go_wp2_with (first | (go_at_call 83; refine (first_any _ _).mono ?_; rintro e w' ⟨rfl, rfl⟩; rw [← HX.out]) | (go_at_call 92; refine (second_any _ _).mono ?_; rintro e w' ⟨rfl, rfl⟩; rw [← HY.out]))
      go_ret
      exact ⟨rfl, Below.refl _ _⟩
    · have g1 : (x == s) = false := by rw [beq_eq_false_iff_ne]; exact h1
      obtain ⟨q, hq⟩ : ∃ q, q = (y == s) := ⟨_, rfl⟩
      have HQ : Hid (q = b) := hid (by
        rw [Bool.eq_iff_iff, HB.out, hq, beq_iff_eq]
        exact ⟨fun h => ⟨h0, .inr h⟩, fun h => h.2.resolve_left h1⟩)
      have hq' := hq.symm
      clear h1 hq
      go_enter Tryd.func51, Tryd.ntmps51
      go_wp2_with (first | (go_at_call 83; refine (first_any _ _).mono ?_; rintro e w' ⟨rfl, rfl⟩; rw [← HX.out]) | (go_at_call 92; refine (second_any _ _).mono ?_; rintro e w' ⟨rfl, rfl⟩; rw [← HY.out]))
      go_ret
      exact ⟨ret_bool (by first | exact HQ.out | (rw [← HQ.out]; assumption) | (rw [← HQ.out]; exact hq')), Below.refl _ _⟩
  · have hbf : b = false := by
      rw [Bool.eq_false_iff]; intro h
      exact h0 (HB.out.1 h).1
    subst hbf
    have g0 : decide (0 ≤ s) = false := by simp; omega
    go_enter Tryd.func51, Tryd.ntmps51
    go_wp2_with fail
    go_ret
    exact ⟨rfl, Below.refl _ _⟩

theorem rb2_keep {w0 : World} {bl : Nat} {S : Nat → Sg} {i x : Nat} {Wd Hd : Int} {ao : Option Addr} {n cap : Nat} {Z : Nat → Int} {bo : Option Addr} {m bcap : Nat} {B : Nat → Bool} {w wr w' : World} (hz : bl < w0.heap.size) (he : w0 = w) (D : w0.cell? ⟨bl, x, none⟩ = some (.int .i64 (S i).t) ∧ w0.cell? ⟨bl, x + 1, none⟩ = some (.int .i64 (S i).p) ∧ w0.cell? ⟨bl, x + 2, none⟩ = some (.int .i64 (S i).o) ∧ w0.cell? ⟨bl, x + 3, none⟩ = some (.int .i64 (S i).k)) {P : Prop} (h : RB Wd Hd ao n cap Z bo m bcap B w wr ∧ P) (hb : Below wr.heap.size wr w') :
    RB Wd Hd ao n cap Z bo m bcap B w w' ∧ (w'.cell? ⟨w.heap.size, 0, none⟩ = some (.int .i64 Wd) ∧ w'.cell? ⟨w.heap.size, 1, none⟩ = some (.int .i64 Hd) ∧ w'.cell? ⟨w.heap.size, 2, none⟩ = some (.slice ao n cap) ∧ w'.cell? ⟨w.heap.size, 3, none⟩ = some (.slice bo m bcap)) ∧ (w'.cell? ⟨bl, x, none⟩ = some (.int .i64 (S i).t) ∧ w'.cell? ⟨bl, x + 1, none⟩ = some (.int .i64 (S i).p) ∧ w'.cell? ⟨bl, x + 2, none⟩ = some (.int .i64 (S i).o) ∧ w'.cell? ⟨bl, x + 3, none⟩ = some (.int .i64 (S i).k)) := by
  subst he
  have q := h.1.stays hb
  have c : ∀ (i : Nat) (v : Value), w0.cell? ⟨bl, i, none⟩ = some v → w'.cell? ⟨bl, i, none⟩ = some v := fun i _ e => (q.below.cell (p := ⟨bl, i, none⟩) hz).trans e
  exact ⟨q, ⟨q.c0, q.c1, q.c2, q.c3⟩, c _ _ D.1, c _ _ D.2.1, c _ _ D.2.2.1, c _ _ D.2.2.2⟩
theorem rb3_keep {w : World} {bl : Nat} {S : Nat → Sg} {i j x y : Nat} {Wd Hd : Int} {ao : Option Addr} {n cap : Nat} {Z : Nat → Int} {bo : Option Addr} {m bcap : Nat} {B : Nat → Bool} {wr w' : World} (hz : bl < w.heap.size) (D : (w.cell? ⟨bl, x, none⟩ = some (.int .i64 (S i).t) ∧ w.cell? ⟨bl, x + 1, none⟩ = some (.int .i64 (S i).p) ∧ w.cell? ⟨bl, x + 2, none⟩ = some (.int .i64 (S i).o) ∧ w.cell? ⟨bl, x + 3, none⟩ = some (.int .i64 (S i).k)) ∧ (w.cell? ⟨bl, y, none⟩ = some (.int .i64 (S j).t) ∧ w.cell? ⟨bl, y + 1, none⟩ = some (.int .i64 (S j).p) ∧ w.cell? ⟨bl, y + 2, none⟩ = some (.int .i64 (S j).o) ∧ w.cell? ⟨bl, y + 3, none⟩ = some (.int .i64 (S j).k))) {P : Prop} (h : RB Wd Hd ao n cap Z bo m bcap B w wr ∧ P) (hb : Below wr.heap.size wr w') :
    RB Wd Hd ao n cap Z bo m bcap B w w' ∧ (w'.cell? ⟨bl, x, none⟩ = some (.int .i64 (S i).t) ∧ w'.cell? ⟨bl, x + 1, none⟩ = some (.int .i64 (S i).p) ∧ w'.cell? ⟨bl, x + 2, none⟩ = some (.int .i64 (S i).o) ∧ w'.cell? ⟨bl, x + 3, none⟩ = some (.int .i64 (S i).k)) ∧ (w'.cell? ⟨bl, y, none⟩ = some (.int .i64 (S j).t) ∧ w'.cell? ⟨bl, y + 1, none⟩ = some (.int .i64 (S j).p) ∧ w'.cell? ⟨bl, y + 2, none⟩ = some (.int .i64 (S j).o) ∧ w'.cell? ⟨bl, y + 3, none⟩ = some (.int .i64 (S j).k)) := by
  have q := h.1.stays hb
  have c : ∀ (i : Nat) (v : Value), w.cell? ⟨bl, i, none⟩ = some v → w'.cell? ⟨bl, i, none⟩ = some v := fun i _ e => (q.below.cell (p := ⟨bl, i, none⟩) hz).trans e
  exact ⟨q, ⟨c _ _ D.1.1, c _ _ D.1.2.1, c _ _ D.1.2.2.1, c _ _ D.1.2.2.2⟩, c _ _ D.2.1, c _ _ D.2.2.1, c _ _ D.2.2.2.1, c _ _ D.2.2.2.2⟩
theorem rb2_of {Wd Hd : Int} {ao : Option Addr} {n cap : Nat} {Z : Nat → Int} {bo : Option Addr} {m bcap : Nat} {B : Nat → Bool} {w wr : World} {P : Prop} (h : RB Wd Hd ao n cap Z bo m bcap B w wr ∧ P) : RB Wd Hd ao n cap Z bo m bcap B w wr := h.1

set_option maxRecDepth 20000 in
set_option maxHeartbeats 12800000 in
theorem rbvalidate_to (Wd Hd : Int) (ao : Option Addr) (n cap : Nat) (Z : Nat → Int) (bo : Option Addr) (m bcap : Nat) (B : Nat → Bool) (lo : Option Addr) (l lcap : Nat) (S : Nat → Sg) (hn : n ≤ 9223372036854775807) (hm : m ≤ 9223372036854775807) (hl : l ≤ 9223372036854775807) (e : Int) (h : BErr Wd Hd n m Z B l S e) (w : World) (hT : Tab w) (hI : Ints w ao n Z) (hB : Bools w bo m B) (hS : SigsAt w lo l S) :
    Calls Tryd.prog 18 #[rv Wd Hd (.slice ao n cap) (.slice bo m bcap), .slice lo l lcap] w fun r w' => r = .returned (.int .i64 e) ∧ Below w.heap.size w w' := by
  have HM := hid (rb_start (Wd := Wd) (Hd := Hd) (cap := cap) (bcap := bcap) hT hI hB)
  have HS := hid hS
  clear hI hS hT hB
  rcases h with ⟨h0, hv⟩ | ⟨hg, h⟩
  · have HV := hid hv
    have g : (e != 0) = true := by simpa using h0
    have g2 : (e == 0) = false := by simpa using h0
    clear hv
    go_enter Tryd.func18, Tryd.ntmps18
    go_upto_region 1 with fail
    generalize World.alloc w _ = wm at HM ⊢
    have c0 := HM.out.c0; have c1 := HM.out.c1; have c2 := HM.out.c2; have c3 := HM.out.c3; have hz := HM.out.size
    go_wp2_with (go_at_call 49; (with_reducible refine (refvalidate_any Wd Hd ao n cap Z bo m bcap B hn hm _ HM.out.ints HM.out.bools e HV.out).mono ?_); rintro e w1 ⟨rfl, hb⟩; have HN := hid (HM.out.stays hb); clear hb c0 c1 c2 c3 hz HM; have HM := HN; clear HN; have c0 := HM.out.c0; have c1 := HM.out.c1; have c2 := HM.out.c2; have c3 := HM.out.c3; have hz := HM.out.size)
    go_ret
    exact ⟨rfl, HM.out.below⟩
  · have HV : Hid (VErr Wd Hd n m Z B 0) := hid (.inl ⟨rfl, hg⟩)
    have HZ : Hid (∀ i, i < n → 0 ≤ Z i ∧ Z i ≤ 63) := hid (fun i hi => ⟨(hg.fine i hi).1, (hg.fine i hi).2.1⟩)
    have HE := hid h
    clear hg h
    by_cases hfew : l ≤ 300
    · have hfew2 : (l : Int) ≤ 300 := by omega
      go_enter Tryd.func18, Tryd.ntmps18
      go_upto_region 1 with fail
      generalize World.alloc w _ = wm at HM ⊢
      have c0 := HM.out.c0; have c1 := HM.out.c1; have c2 := HM.out.c2; have c3 := HM.out.c3; have hz := HM.out.size
      go_wp2_with (go_at_call 49; (with_reducible refine (refvalidate_any Wd Hd ao n cap Z bo m bcap B hn hm _ HM.out.ints HM.out.bools 0 HV.out).mono ?_); rintro e w1 ⟨rfl, hb⟩; have HN := hid (HM.out.stays hb); clear hb c0 c1 c2 c3 hz HM; have HM := HN; clear HN; have c0 := HM.out.c0; have c1 := HM.out.c1; have c2 := HM.out.c2; have c3 := HM.out.c3; have hz := HM.out.size)
      clear c0 c1 c2 c3 hz
      go_loopw [6] (fun iv wr => ∃ i : Nat, i ≤ l ∧ iv = .int .i64 i ∧ Hid ((∀ j, j < i → 0 ≤ (S j).k ∧ (S j).k ≤ 5) ∧ ∀ j, j + 1 < i → Less (S j) (S (j + 1))) ∧ Hid (RB Wd Hd ao n cap Z bo m bcap B w wr)) (fun iv _ => l - (intOf iv).toNat)
      case atStart => exact ⟨0, Nat.zero_le _, rfl, hid ⟨fun j hj => by omega, fun j hj => by omega⟩, HM⟩
      case round =>
        clear HM
        obtain ⟨i, hi, rfl, HK, HM⟩ := hrel
        by_cases hlt : i < l
        · obtain ⟨bl, off, rfl, hbz, hc⟩ := HS.out.one (by omega)
          have Di := hc i hlt
          have Dj := hc (i - 1) (by omega)
          clear hc
          obtain ⟨x, hx⟩ : ∃ x, x = off + (i - 1) * 4 := ⟨_, rfl⟩
          obtain ⟨y, hy⟩ : ∃ y, y = off + i * 4 := ⟨_, rfl⟩
          obtain ⟨j, hj⟩ : ∃ j, j = i - 1 := ⟨_, rfl⟩
          rw [← hy] at Di
          rw [← hx, ← hj] at Dj
          have D := hid (And.intro Dj Di)
          have ey : off + i * 4 = y := hy.symm
          have a3 : (0 : Int) ≤ (i : Int) := by omega
          have a4 : (i : Int) < (l : Int) := by omega
          have y3 := (HM.out.below.cell (p := ⟨bl, y + 3, none⟩) hbz).trans Di.2.2.2
          obtain ⟨kk, hkk⟩ : ∃ kk, kk = (S i).k := ⟨_, rfl⟩
          have HKK := hid hkk
          rw [← hkk] at y3
          have HJ := hid hj
          have HX := hid hx
          clear hx hy hj Di Dj hkk
          by_cases hk0 : kk < 0
          · have he : e = 1 := by
              rcases HE.out with ⟨h, _⟩ | ⟨_, h, _⟩ | ⟨_, h, _⟩
              · exact h
              · exact absurd (h.kind i hlt) (by rw [← HKK.out]; omega)
              · exact absurd (h.kind i hlt) (by rw [← HKK.out]; omega)
            subst he
            have b1 : decide (kk < 0) = true := by simp; omega
            go_wp2_with fail
            go_quiet (fail)
            go_wp2_with fail
            go_ret
            exact ⟨rfl, HM.out.below.trans ((Joins.below_draws _ _ _).mono HM.out.below.size)⟩
          · have b1 : decide (kk < 0) = false := by simp; omega
            by_cases hk5 : 5 < kk
            · have he : e = 1 := by
                rcases HE.out with ⟨h, _⟩ | ⟨_, h, _⟩ | ⟨_, h, _⟩
                · exact h
                · exact absurd (h.kind i hlt) (by rw [← HKK.out]; omega)
                · exact absurd (h.kind i hlt) (by rw [← HKK.out]; omega)
              subst he
              have b2 : decide (5 < kk) = true := by simp; omega
              go_wp2_with fail
              go_quiet (fail)
              go_wp2_with fail
              go_ret
              exact ⟨rfl, HM.out.below.trans ((Joins.below_draws _ _ _).mono HM.out.below.size)⟩
            · have b2 : decide (5 < kk) = false := by simp; omega
              have HKI : Hid (∀ j, j < i + 1 → 0 ≤ (S j).k ∧ (S j).k ≤ 5) := hid (fun q hq => by
                by_cases e : q = i
                · subst e; rw [← HKK.out]; omega
                · exact HK.out.1 q (by omega))
              by_cases hi0 : i = 0
              · subst hi0
                have y3' : wr.cell? ⟨bl, off + 3, none⟩ = some (.int .i64 kk) := by rw [show off = y by omega]; exact y3
                have a4' : (0 : Int) < (l : Int) := by omega
                clear ey a4
                go_wp2_with fail
                go_quiet (fail)
                go_wp2_with fail
                exact ⟨⟨1, by omega, by go_num, hid ⟨HKI.out, fun q hq => by omega⟩, hid (HM.out.stays (Joins.below_draws _ _ _))⟩, by simp [intOf]; omega⟩
              · have b3 : decide ((0 : Int) < (i : Int)) = true := by simp; omega
                have b6 : decide (0 < i) = true := by simp; omega
                have b4 : decide ((S i).k < 0) = false := by rw [← HKK.out]; exact b1
                have b5 : decide (5 < (S i).k) = false := by rw [← HKK.out]; exact b2
                have a1 : (0 : Int) ≤ (i : Int) - 1 := by omega
                have a2 : (i : Int) - 1 < (l : Int) := by omega
                have a7 : (1 : Int) ≤ (i : Int) := by omega
                have a5 : ((i : Int) - 1).toNat = j := by have := HJ.out; omega
                have a6 : IntKind.i64.wrap ((i : Int) - 1) = (i : Int) - 1 := by rw [IntKind.wrap_i64]; omega
                have ex : off + j * 4 = x := by have h1 := HJ.out; have h2 := HX.out; rw [h2, h1]
                by_cases hle : Less (S j) (S i)
                · have HLE := hid (fun w => less_any (S j) (S i) true ⟨fun _ => hle, fun _ => rfl⟩ w)
                  have HLL := hid hle
                  clear hle y3
                  go_upto_region 9 with fail
                  refine wp_region_held_drew (S := (fun wr => RB Wd Hd ao n cap Z bo m bcap B w wr ∧ (wr.cell? ⟨bl, x, none⟩ = some (.int .i64 (S j).t) ∧ wr.cell? ⟨bl, x + 1, none⟩ = some (.int .i64 (S j).p) ∧ wr.cell? ⟨bl, x + 2, none⟩ = some (.int .i64 (S j).o) ∧ wr.cell? ⟨bl, x + 3, none⟩ = some (.int .i64 (S j).k)) ∧ (wr.cell? ⟨bl, y, none⟩ = some (.int .i64 (S i).t) ∧ wr.cell? ⟨bl, y + 1, none⟩ = some (.int .i64 (S i).p) ∧ wr.cell? ⟨bl, y + 2, none⟩ = some (.int .i64 (S i).o) ∧ wr.cell? ⟨bl, y + 3, none⟩ = some (.int .i64 (S i).k)))) (by kernel_rfl) (rb3_keep hbz D.out (And.intro HM.out trivial) ((Below.refl _ _).drew)) (fun hHeld => ?_)
                  refine wpAnyH_take (i := 0) (oi := { dst := some 22, op := Op.move (Operand.tmp 1), type := 26, pos := "ref.go:29", after := #[], guard := none }) (v := ?_) rfl (by kernel_rfl) (by kernel_rfl) (by kernel_rfl) (fun _ _ _ h => h) (Or.inl ⟨by rfl, ?_⟩) (by assumption) ?_
                  rotate_left
                  · intro w hSw; (try dsimp only at hSw); go_simp; try (with_reducible rfl)
                  try simp only [Act.put, List.setIfInBounds_toArray, List.set_cons_zero, List.set_cons_succ]
                  refine wpAnyH_take (i := 1) (oi := { dst := some 23, op := Op.move (Operand.tmp 6), type := 3, pos := "ref.go:29", after := #[], guard := none }) (v := ?_) rfl (by kernel_rfl) (by kernel_rfl) (by kernel_rfl) (fun _ _ _ h => h) (Or.inl ⟨by rfl, ?_⟩) (by assumption) ?_
                  rotate_left
                  · intro w hSw; (try dsimp only at hSw); go_simp; try (with_reducible rfl)
                  try simp only [Act.put, List.setIfInBounds_toArray, List.set_cons_zero, List.set_cons_succ]
                  refine wpAnyH_take (i := 2) (oi := { dst := some 24, op := Op.indexAddr 26 (Operand.tmp 22) (Operand.tmp 23), type := 0, pos := "ref.go:29", after := #[{ on := 0, ground := Ground.data }, { on := 1, ground := Ground.data }], guard := none }) (v := ?_) rfl (by kernel_rfl) (by kernel_rfl) (by kernel_rfl) (fun _ _ _ h => h) (Or.inl ⟨by rfl, ?_⟩) (by assumption) ?_
                  rotate_left
                  · intro w hSw; (try dsimp only at hSw); go_simp; try (with_reducible rfl)
                  try simp only [Act.put, List.setIfInBounds_toArray, List.set_cons_zero, List.set_cons_succ]
                  refine wpAnyH_take (i := 3) (oi := { dst := some 25, op := Op.fieldAddr 32 (Operand.tmp 24) 3, type := 0, pos := "ref.go:29", after := #[{ on := 2, ground := Ground.data }], guard := none }) (v := ?_) rfl (by kernel_rfl) (by kernel_rfl) (by kernel_rfl) (fun _ _ _ h => h) (Or.inl ⟨by rfl, ?_⟩) (by assumption) ?_
                  rotate_left
                  · intro w hSw; (try dsimp only at hSw); go_simp; try (with_reducible rfl)
                  try simp only [Act.put, List.setIfInBounds_toArray, List.set_cons_zero, List.set_cons_succ]
                  refine wpAnyH_take (i := 4) (oi := { dst := some 26, op := Op.load 3 (Operand.tmp 25), type := 3, pos := "ref.go:29", after := #[{ on := 3, ground := Ground.data }], guard := none }) (v := ?_) rfl (by kernel_rfl) (by kernel_rfl) (by kernel_rfl) (fun _ _ _ h => h) (Or.inl ⟨by rfl, ?_⟩) (by assumption) ?_
                  rotate_left
                  · intro w hSw; (try dsimp only at hSw); go_simp; try (with_reducible rfl)
                  try simp only [Act.put, List.setIfInBounds_toArray, List.set_cons_zero, List.set_cons_succ]
                  refine wpAnyH_take (i := 5) (oi := { dst := some 27, op := Op.binOp BinOp.lss 3 (Operand.tmp 26) (Operand.const (Value.int IntKind.i64 0)) 3, type := 4, pos := "ref.go:29", after := #[{ on := 4, ground := Ground.data }], guard := none }) (v := ?_) rfl (by kernel_rfl) (by kernel_rfl) (by kernel_rfl) (fun _ _ _ h => h) (Or.inl ⟨by rfl, ?_⟩) (by assumption) ?_
                  rotate_left
                  · intro w hSw; (try dsimp only at hSw); go_simp; try (with_reducible rfl)
                  try simp only [Act.put, List.setIfInBounds_toArray, List.set_cons_zero, List.set_cons_succ]
                  refine wpAnyH_take (i := 6) (oi := { dst := some 28, op := Op.move (Operand.tmp 27), type := 4, pos := "ref.go:29", after := #[{ on := 5, ground := Ground.data }], guard := none }) (v := ?_) rfl (by kernel_rfl) (by kernel_rfl) (by kernel_rfl) (fun _ _ _ h => h) (Or.inl ⟨by rfl, ?_⟩) (by assumption) ?_
                  rotate_left
                  · intro w hSw; (try dsimp only at hSw); go_simp; try (with_reducible rfl)
                  try simp only [Act.put, List.setIfInBounds_toArray, List.set_cons_zero, List.set_cons_succ]
                  refine wpAnyH_take (i := 7) (oi := { dst := some 29, op := Op.move (Operand.tmp 1), type := 26, pos := "ref.go:29", after := #[{ on := 6, ground := Ground.guard }], guard := some (6, false) }) (v := ?_) rfl (by kernel_rfl) (by kernel_rfl) (by kernel_rfl) (fun _ _ _ h => h) (Or.inl ⟨by rfl, ?_⟩) (by assumption) ?_
                  rotate_left
                  · intro w hSw; (try dsimp only at hSw); go_simp; try (with_reducible rfl)
                  try simp only [Act.put, List.setIfInBounds_toArray, List.set_cons_zero, List.set_cons_succ]
                  refine wpAnyH_take (i := 8) (oi := { dst := some 30, op := Op.move (Operand.tmp 6), type := 3, pos := "ref.go:29", after := #[{ on := 6, ground := Ground.guard }], guard := some (6, false) }) (v := ?_) rfl (by kernel_rfl) (by kernel_rfl) (by kernel_rfl) (fun _ _ _ h => h) (Or.inl ⟨by rfl, ?_⟩) (by assumption) ?_
                  rotate_left
                  · intro w hSw; (try dsimp only at hSw); go_simp; try (with_reducible rfl)
                  try simp only [Act.put, List.setIfInBounds_toArray, List.set_cons_zero, List.set_cons_succ]
                  refine wpAnyH_take (i := 9) (oi := { dst := some 31, op := Op.indexAddr 26 (Operand.tmp 29) (Operand.tmp 30), type := 0, pos := "ref.go:29", after := #[{ on := 7, ground := Ground.data }, { on := 8, ground := Ground.data }, { on := 6, ground := Ground.guard }], guard := some (6, false) }) (v := ?_) rfl (by kernel_rfl) (by kernel_rfl) (by kernel_rfl) (fun _ _ _ h => h) (Or.inl ⟨by rfl, ?_⟩) (by assumption) ?_
                  rotate_left
                  · intro w hSw; (try dsimp only at hSw); go_simp; try (with_reducible rfl)
                  try simp only [Act.put, List.setIfInBounds_toArray, List.set_cons_zero, List.set_cons_succ]
                  refine wpAnyH_take (i := 10) (oi := { dst := some 32, op := Op.fieldAddr 32 (Operand.tmp 31) 3, type := 0, pos := "ref.go:29", after := #[{ on := 9, ground := Ground.data }, { on := 6, ground := Ground.guard }], guard := some (6, false) }) (v := ?_) rfl (by kernel_rfl) (by kernel_rfl) (by kernel_rfl) (fun _ _ _ h => h) (Or.inl ⟨by rfl, ?_⟩) (by assumption) ?_
                  rotate_left
                  · intro w hSw; (try dsimp only at hSw); go_simp; try (with_reducible rfl)
                  try simp only [Act.put, List.setIfInBounds_toArray, List.set_cons_zero, List.set_cons_succ]
                  refine wpAnyH_take (i := 11) (oi := { dst := some 33, op := Op.load 3 (Operand.tmp 32), type := 3, pos := "ref.go:29", after := #[{ on := 10, ground := Ground.data }, { on := 6, ground := Ground.guard }], guard := some (6, false) }) (v := ?_) rfl (by kernel_rfl) (by kernel_rfl) (by kernel_rfl) (fun _ _ _ h => h) (Or.inl ⟨by rfl, ?_⟩) (by assumption) ?_
                  rotate_left
                  · intro w hSw; (try dsimp only at hSw); go_simp; try (with_reducible rfl)
                  try simp only [Act.put, List.setIfInBounds_toArray, List.set_cons_zero, List.set_cons_succ]
                  refine wpAnyH_take (i := 12) (oi := { dst := some 34, op := Op.binOp BinOp.gtr 3 (Operand.tmp 33) (Operand.const (Value.int IntKind.i64 5)) 3, type := 4, pos := "ref.go:29", after := #[{ on := 11, ground := Ground.data }, { on := 6, ground := Ground.guard }], guard := some (6, false) }) (v := ?_) rfl (by kernel_rfl) (by kernel_rfl) (by kernel_rfl) (fun _ _ _ h => h) (Or.inl ⟨by rfl, ?_⟩) (by assumption) ?_
                  rotate_left
                  · intro w hSw; (try dsimp only at hSw); go_simp; try (with_reducible rfl)
                  try simp only [Act.put, List.setIfInBounds_toArray, List.set_cons_zero, List.set_cons_succ]
                  refine wpAnyH_take (i := 13) (oi := { dst := some 35, op := Op.pick (Operand.tmp 28) (Operand.const (Value.bool true)) (Operand.tmp 34), type := 4, pos := "ref.go:29", after := #[{ on := 6, ground := Ground.data }, { on := 12, ground := Ground.data }], guard := none }) (v := ?_) rfl (by kernel_rfl) (by kernel_rfl) (by kernel_rfl) (fun _ _ _ h => h) (Or.inl ⟨by rfl, ?_⟩) (by assumption) ?_
                  rotate_left
                  · intro w hSw; (try dsimp only at hSw); go_simp; try (with_reducible rfl)
                  try simp only [Act.put, List.setIfInBounds_toArray, List.set_cons_zero, List.set_cons_succ]
                  refine wpAnyH_take (i := 14) (oi := { dst := some 36, op := Op.move (Operand.tmp 35), type := 4, pos := "ref.go:29", after := #[{ on := 13, ground := Ground.data }, { on := 6, ground := Ground.chain }], guard := none }) (v := ?_) rfl (by kernel_rfl) (by kernel_rfl) (by kernel_rfl) (fun _ _ _ h => h) (Or.inl ⟨by rfl, ?_⟩) (by assumption) ?_
                  rotate_left
                  · intro w hSw; (try dsimp only at hSw); go_simp; try (with_reducible rfl)
                  try simp only [Act.put, List.setIfInBounds_toArray, List.set_cons_zero, List.set_cons_succ]
                  refine wpAnyH_take (i := 15) (oi := { dst := some 37, op := Op.move (Operand.tmp 6), type := 3, pos := "ref.go:29", after := #[{ on := 14, ground := Ground.guard }], guard := some (14, false) }) (v := ?_) rfl (by kernel_rfl) (by kernel_rfl) (by kernel_rfl) (fun _ _ _ h => h) (Or.inl ⟨by rfl, ?_⟩) (by assumption) ?_
                  rotate_left
                  · intro w hSw; (try dsimp only at hSw); go_simp; try (with_reducible rfl)
                  try simp only [Act.put, List.setIfInBounds_toArray, List.set_cons_zero, List.set_cons_succ]
                  refine wpAnyH_take (i := 16) (oi := { dst := some 38, op := Op.binOp BinOp.gtr 3 (Operand.tmp 37) (Operand.const (Value.int IntKind.i64 0)) 3, type := 4, pos := "ref.go:29", after := #[{ on := 15, ground := Ground.data }, { on := 14, ground := Ground.guard }], guard := some (14, false) }) (v := ?_) rfl (by kernel_rfl) (by kernel_rfl) (by kernel_rfl) (fun _ _ _ h => h) (Or.inl ⟨by rfl, ?_⟩) (by assumption) ?_
                  rotate_left
                  · intro w hSw; (try dsimp only at hSw); go_simp; try (with_reducible rfl)
                  try simp only [Act.put, List.setIfInBounds_toArray, List.set_cons_zero, List.set_cons_succ]
                  refine wpAnyH_take (i := 17) (oi := { dst := some 39, op := Op.move (Operand.tmp 38), type := 4, pos := "ref.go:29", after := #[{ on := 16, ground := Ground.data }, { on := 14, ground := Ground.chain }, { on := 14, ground := Ground.guard }], guard := some (14, false) }) (v := ?_) rfl (by kernel_rfl) (by kernel_rfl) (by kernel_rfl) (fun _ _ _ h => h) (Or.inl ⟨by rfl, ?_⟩) (by assumption) ?_
                  rotate_left
                  · intro w hSw; (try dsimp only at hSw); go_simp; try (with_reducible rfl)
                  try simp only [Act.put, List.setIfInBounds_toArray, List.set_cons_zero, List.set_cons_succ]
                  refine wpAnyH_take (i := 18) (oi := { dst := some 40, op := Op.move (Operand.tmp 1), type := 26, pos := "ref.go:29", after := #[{ on := 17, ground := Ground.guard }], guard := some (17, true) }) (v := ?_) rfl (by kernel_rfl) (by kernel_rfl) (by kernel_rfl) (fun _ _ _ h => h) (Or.inl ⟨by rfl, ?_⟩) (by assumption) ?_
                  rotate_left
                  · intro w hSw; (try dsimp only at hSw); go_simp; try (with_reducible rfl)
                  try simp only [Act.put, List.setIfInBounds_toArray, List.set_cons_zero, List.set_cons_succ]
                  refine wpAnyH_take (i := 19) (oi := { dst := some 41, op := Op.move (Operand.tmp 6), type := 3, pos := "ref.go:29", after := #[{ on := 17, ground := Ground.guard }], guard := some (17, true) }) (v := ?_) rfl (by kernel_rfl) (by kernel_rfl) (by kernel_rfl) (fun _ _ _ h => h) (Or.inl ⟨by rfl, ?_⟩) (by assumption) ?_
                  rotate_left
                  · intro w hSw; (try dsimp only at hSw); go_simp; try (with_reducible rfl)
                  try simp only [Act.put, List.setIfInBounds_toArray, List.set_cons_zero, List.set_cons_succ]
                  refine wpAnyH_take (i := 20) (oi := { dst := some 42, op := Op.binOp BinOp.sub 3 (Operand.tmp 41) (Operand.const (Value.int IntKind.i64 1)) 3, type := 3, pos := "ref.go:29", after := #[{ on := 19, ground := Ground.data }, { on := 17, ground := Ground.guard }], guard := some (17, true) }) (v := ?_) rfl (by kernel_rfl) (by kernel_rfl) (by kernel_rfl) (fun _ _ _ h => h) (Or.inl ⟨by rfl, ?_⟩) (by assumption) ?_
                  rotate_left
                  · intro w hSw; (try dsimp only at hSw); go_simp; try (with_reducible rfl)
                  try simp only [Act.put, List.setIfInBounds_toArray, List.set_cons_zero, List.set_cons_succ]
                  refine wpAnyH_take (i := 21) (oi := { dst := some 43, op := Op.indexAddr 26 (Operand.tmp 40) (Operand.tmp 42), type := 0, pos := "ref.go:29", after := #[{ on := 18, ground := Ground.data }, { on := 20, ground := Ground.data }, { on := 17, ground := Ground.guard }], guard := some (17, true) }) (v := ?_) rfl (by kernel_rfl) (by kernel_rfl) (by kernel_rfl) (fun _ _ _ h => h) (Or.inl ⟨by rfl, ?_⟩) (by assumption) ?_
                  rotate_left
                  · intro w hSw; (try dsimp only at hSw); go_simp; try (with_reducible rfl)
                  try simp only [Act.put, List.setIfInBounds_toArray, List.set_cons_zero, List.set_cons_succ]
                  refine wpAnyH_take (i := 22) (oi := { dst := some 44, op := Op.load 32 (Operand.tmp 43), type := 32, pos := "ref.go:29", after := #[{ on := 21, ground := Ground.data }, { on := 17, ground := Ground.guard }], guard := some (17, true) }) (v := ?_) rfl (by kernel_rfl) (by kernel_rfl) (by kernel_rfl) (fun _ _ _ h => h) (Or.inl ⟨by rfl, ?_⟩) (by assumption) ?_
                  rotate_left
                  · intro w hSw; (try dsimp only at hSw); go_simp; try (with_reducible rfl)
                  try simp only [Act.put, List.setIfInBounds_toArray, List.set_cons_zero, List.set_cons_succ]
                  refine wpAnyH_take (i := 23) (oi := { dst := some 45, op := Op.move (Operand.tmp 1), type := 26, pos := "ref.go:29", after := #[{ on := 17, ground := Ground.guard }], guard := some (17, true) }) (v := ?_) rfl (by kernel_rfl) (by kernel_rfl) (by kernel_rfl) (fun _ _ _ h => h) (Or.inl ⟨by rfl, ?_⟩) (by assumption) ?_
                  rotate_left
                  · intro w hSw; (try dsimp only at hSw); go_simp; try (with_reducible rfl)
                  try simp only [Act.put, List.setIfInBounds_toArray, List.set_cons_zero, List.set_cons_succ]
                  refine wpAnyH_take (i := 24) (oi := { dst := some 46, op := Op.move (Operand.tmp 6), type := 3, pos := "ref.go:29", after := #[{ on := 17, ground := Ground.guard }], guard := some (17, true) }) (v := ?_) rfl (by kernel_rfl) (by kernel_rfl) (by kernel_rfl) (fun _ _ _ h => h) (Or.inl ⟨by rfl, ?_⟩) (by assumption) ?_
                  rotate_left
                  · intro w hSw; (try dsimp only at hSw); go_simp; try (with_reducible rfl)
                  try simp only [Act.put, List.setIfInBounds_toArray, List.set_cons_zero, List.set_cons_succ]
                  refine wpAnyH_take (i := 25) (oi := { dst := some 47, op := Op.indexAddr 26 (Operand.tmp 45) (Operand.tmp 46), type := 0, pos := "ref.go:29", after := #[{ on := 23, ground := Ground.data }, { on := 24, ground := Ground.data }, { on := 17, ground := Ground.guard }], guard := some (17, true) }) (v := ?_) rfl (by kernel_rfl) (by kernel_rfl) (by kernel_rfl) (fun _ _ _ h => h) (Or.inl ⟨by rfl, ?_⟩) (by assumption) ?_
                  rotate_left
                  · intro w hSw; (try dsimp only at hSw); go_simp; try (with_reducible rfl)
                  try simp only [Act.put, List.setIfInBounds_toArray, List.set_cons_zero, List.set_cons_succ]
                  refine wpAnyH_take (i := 26) (oi := { dst := some 48, op := Op.load 32 (Operand.tmp 47), type := 32, pos := "ref.go:29", after := #[{ on := 25, ground := Ground.data }, { on := 17, ground := Ground.guard }], guard := some (17, true) }) (v := ?_) rfl (by kernel_rfl) (by kernel_rfl) (by kernel_rfl) (fun _ _ _ h => h) (Or.inl ⟨by rfl, ?_⟩) (by assumption) ?_
                  rotate_left
                  · intro w hSw; (try dsimp only at hSw); go_simp; try (with_reducible rfl)
                  try simp only [Act.put, List.setIfInBounds_toArray, List.set_cons_zero, List.set_cons_succ]
                  refine wpAnyH_ready (rs := [27]) (by kernel_rfl) (by simp) ?_
                  refine AllReadyH.cons (o := { dst := some 49, op := Op.call { callee := Callee.value (Operand.func 50), args := #[Operand.tmp 44, Operand.tmp 48], argTypes := #[32, 32] }, type := 4, pos := "ref.go:29", after := #[{ on := 22, ground := Ground.data }, { on := 26, ground := Ground.data }, { on := 17, ground := Ground.chain }, { on := 17, ground := Ground.guard }], guard := some (17, true) }) rfl (fun K hK => ?_) AllReadyH.nil
                  go_simp
                  refine (HLE.out _).mono ?_
                  rintro r w' ⟨rfl, hb⟩
                  try go_wp2_with fail
                  refine hK.out _ _ (rb3_keep hbz D.out (by assumption) hb) (fun hHeld2 => ?_)
                  clear hK K
                  try simp only [Act.put, List.setIfInBounds_toArray, List.set_cons_zero, List.set_cons_succ]
                  refine wpAnyH_take (i := 28) (oi := { dst := some 50, op := Op.unOp UnOp.not 4 (Operand.tmp 49), type := 4, pos := "ref.go:29", after := #[{ on := 27, ground := Ground.data }, { on := 17, ground := Ground.guard }], guard := some (17, true) }) (v := ?_) rfl (by kernel_rfl) (by kernel_rfl) (by kernel_rfl) (fun _ _ _ h => h) (Or.inl ⟨by rfl, ?_⟩) (by assumption) ?_
                  rotate_left
                  · intro w hSw; (try dsimp only at hSw); go_simp; try (with_reducible rfl)
                  try simp only [Act.put, List.setIfInBounds_toArray, List.set_cons_zero, List.set_cons_succ]
                  refine wpAnyH_take (i := 29) (oi := { dst := some 51, op := Op.pick (Operand.tmp 39) (Operand.tmp 50) (Operand.const (Value.bool false)), type := 4, pos := "ref.go:29", after := #[{ on := 17, ground := Ground.data }, { on := 28, ground := Ground.data }, { on := 14, ground := Ground.guard }], guard := some (14, false) }) (v := ?_) rfl (by kernel_rfl) (by kernel_rfl) (by kernel_rfl) (fun _ _ _ h => h) (Or.inl ⟨by rfl, ?_⟩) (by assumption) ?_
                  rotate_left
                  · intro w hSw; (try dsimp only at hSw); go_simp; try (with_reducible rfl)
                  try simp only [Act.put, List.setIfInBounds_toArray, List.set_cons_zero, List.set_cons_succ]
                  refine wpAnyH_take (i := 30) (oi := { dst := some 52, op := Op.pick (Operand.tmp 36) (Operand.const (Value.bool true)) (Operand.tmp 51), type := 4, pos := "ref.go:29", after := #[{ on := 14, ground := Ground.data }, { on := 29, ground := Ground.data }], guard := none }) (v := ?_) rfl (by kernel_rfl) (by kernel_rfl) (by kernel_rfl) (fun _ _ _ h => h) (Or.inl ⟨by rfl, ?_⟩) (by assumption) ?_
                  rotate_left
                  · intro w hSw; (try dsimp only at hSw); go_simp; try (with_reducible rfl)
                  try simp only [Act.put, List.setIfInBounds_toArray, List.set_cons_zero, List.set_cons_succ]
                  refine wpAnyH_done (by kernel_rfl) ?_ _
                  have HM2 := hid (rb2_of (by assumption))
                  clear a1 a2 a3 a4 a5 a6 a7 ex ey D b1 b2 b3 b4 b5 b6
                  go_wp2_with fail
                  exact ⟨⟨i + 1, by omega, by go_num, hid ⟨HKI.out, fun q hq => by
                    by_cases h : q + 1 < i
                    · exact HK.out.2 q h
                    · obtain rfl : q = j := by have := HJ.out; omega
                      rw [show q + 1 = i from by have := HJ.out; omega]; exact HLL.out⟩, HM2⟩, by simp [intOf]; omega⟩
                · have HLE := hid (fun w => less_any (S j) (S i) false ⟨fun h => (by cases h), fun h => absurd h hle⟩ w)
                  have he : e = 1 := by
                    have hno : ¬ SOk l S := fun h => hle (by
                      have := h.asc j (by have := HJ.out; omega)
                      rwa [show j + 1 = i from by have := HJ.out; omega] at this)
                    rcases HE.out with ⟨h, _⟩ | ⟨_, h, _⟩ | ⟨_, h, _⟩
                    · exact h
                    · exact absurd h hno
                    · exact absurd h hno
                  subst he
                  clear hle y3
                  go_upto_region 9 with fail
                  refine wp_region_held_drew (S := (fun wr => RB Wd Hd ao n cap Z bo m bcap B w wr ∧ (wr.cell? ⟨bl, x, none⟩ = some (.int .i64 (S j).t) ∧ wr.cell? ⟨bl, x + 1, none⟩ = some (.int .i64 (S j).p) ∧ wr.cell? ⟨bl, x + 2, none⟩ = some (.int .i64 (S j).o) ∧ wr.cell? ⟨bl, x + 3, none⟩ = some (.int .i64 (S j).k)) ∧ (wr.cell? ⟨bl, y, none⟩ = some (.int .i64 (S i).t) ∧ wr.cell? ⟨bl, y + 1, none⟩ = some (.int .i64 (S i).p) ∧ wr.cell? ⟨bl, y + 2, none⟩ = some (.int .i64 (S i).o) ∧ wr.cell? ⟨bl, y + 3, none⟩ = some (.int .i64 (S i).k)))) (by kernel_rfl) (rb3_keep hbz D.out (And.intro HM.out trivial) ((Below.refl _ _).drew)) (fun hHeld => ?_)
                  refine wpAnyH_take (i := 0) (oi := { dst := some 22, op := Op.move (Operand.tmp 1), type := 26, pos := "ref.go:29", after := #[], guard := none }) (v := ?_) rfl (by kernel_rfl) (by kernel_rfl) (by kernel_rfl) (fun _ _ _ h => h) (Or.inl ⟨by rfl, ?_⟩) (by assumption) ?_
                  rotate_left
                  · intro w hSw; (try dsimp only at hSw); go_simp; try (with_reducible rfl)
                  try simp only [Act.put, List.setIfInBounds_toArray, List.set_cons_zero, List.set_cons_succ]
                  refine wpAnyH_take (i := 1) (oi := { dst := some 23, op := Op.move (Operand.tmp 6), type := 3, pos := "ref.go:29", after := #[], guard := none }) (v := ?_) rfl (by kernel_rfl) (by kernel_rfl) (by kernel_rfl) (fun _ _ _ h => h) (Or.inl ⟨by rfl, ?_⟩) (by assumption) ?_
                  rotate_left
                  · intro w hSw; (try dsimp only at hSw); go_simp; try (with_reducible rfl)
                  try simp only [Act.put, List.setIfInBounds_toArray, List.set_cons_zero, List.set_cons_succ]
                  refine wpAnyH_take (i := 2) (oi := { dst := some 24, op := Op.indexAddr 26 (Operand.tmp 22) (Operand.tmp 23), type := 0, pos := "ref.go:29", after := #[{ on := 0, ground := Ground.data }, { on := 1, ground := Ground.data }], guard := none }) (v := ?_) rfl (by kernel_rfl) (by kernel_rfl) (by kernel_rfl) (fun _ _ _ h => h) (Or.inl ⟨by rfl, ?_⟩) (by assumption) ?_
                  rotate_left
                  · intro w hSw; (try dsimp only at hSw); go_simp; try (with_reducible rfl)
                  try simp only [Act.put, List.setIfInBounds_toArray, List.set_cons_zero, List.set_cons_succ]
                  refine wpAnyH_take (i := 3) (oi := { dst := some 25, op := Op.fieldAddr 32 (Operand.tmp 24) 3, type := 0, pos := "ref.go:29", after := #[{ on := 2, ground := Ground.data }], guard := none }) (v := ?_) rfl (by kernel_rfl) (by kernel_rfl) (by kernel_rfl) (fun _ _ _ h => h) (Or.inl ⟨by rfl, ?_⟩) (by assumption) ?_
                  rotate_left
                  · intro w hSw; (try dsimp only at hSw); go_simp; try (with_reducible rfl)
                  try simp only [Act.put, List.setIfInBounds_toArray, List.set_cons_zero, List.set_cons_succ]
                  refine wpAnyH_take (i := 4) (oi := { dst := some 26, op := Op.load 3 (Operand.tmp 25), type := 3, pos := "ref.go:29", after := #[{ on := 3, ground := Ground.data }], guard := none }) (v := ?_) rfl (by kernel_rfl) (by kernel_rfl) (by kernel_rfl) (fun _ _ _ h => h) (Or.inl ⟨by rfl, ?_⟩) (by assumption) ?_
                  rotate_left
                  · intro w hSw; (try dsimp only at hSw); go_simp; try (with_reducible rfl)
                  try simp only [Act.put, List.setIfInBounds_toArray, List.set_cons_zero, List.set_cons_succ]
                  refine wpAnyH_take (i := 5) (oi := { dst := some 27, op := Op.binOp BinOp.lss 3 (Operand.tmp 26) (Operand.const (Value.int IntKind.i64 0)) 3, type := 4, pos := "ref.go:29", after := #[{ on := 4, ground := Ground.data }], guard := none }) (v := ?_) rfl (by kernel_rfl) (by kernel_rfl) (by kernel_rfl) (fun _ _ _ h => h) (Or.inl ⟨by rfl, ?_⟩) (by assumption) ?_
                  rotate_left
                  · intro w hSw; (try dsimp only at hSw); go_simp; try (with_reducible rfl)
                  try simp only [Act.put, List.setIfInBounds_toArray, List.set_cons_zero, List.set_cons_succ]
                  refine wpAnyH_take (i := 6) (oi := { dst := some 28, op := Op.move (Operand.tmp 27), type := 4, pos := "ref.go:29", after := #[{ on := 5, ground := Ground.data }], guard := none }) (v := ?_) rfl (by kernel_rfl) (by kernel_rfl) (by kernel_rfl) (fun _ _ _ h => h) (Or.inl ⟨by rfl, ?_⟩) (by assumption) ?_
                  rotate_left
                  · intro w hSw; (try dsimp only at hSw); go_simp; try (with_reducible rfl)
                  try simp only [Act.put, List.setIfInBounds_toArray, List.set_cons_zero, List.set_cons_succ]
                  refine wpAnyH_take (i := 7) (oi := { dst := some 29, op := Op.move (Operand.tmp 1), type := 26, pos := "ref.go:29", after := #[{ on := 6, ground := Ground.guard }], guard := some (6, false) }) (v := ?_) rfl (by kernel_rfl) (by kernel_rfl) (by kernel_rfl) (fun _ _ _ h => h) (Or.inl ⟨by rfl, ?_⟩) (by assumption) ?_
                  rotate_left
                  · intro w hSw; (try dsimp only at hSw); go_simp; try (with_reducible rfl)
                  try simp only [Act.put, List.setIfInBounds_toArray, List.set_cons_zero, List.set_cons_succ]
                  refine wpAnyH_take (i := 8) (oi := { dst := some 30, op := Op.move (Operand.tmp 6), type := 3, pos := "ref.go:29", after := #[{ on := 6, ground := Ground.guard }], guard := some (6, false) }) (v := ?_) rfl (by kernel_rfl) (by kernel_rfl) (by kernel_rfl) (fun _ _ _ h => h) (Or.inl ⟨by rfl, ?_⟩) (by assumption) ?_
                  rotate_left
                  · intro w hSw; (try dsimp only at hSw); go_simp; try (with_reducible rfl)
                  try simp only [Act.put, List.setIfInBounds_toArray, List.set_cons_zero, List.set_cons_succ]
                  refine wpAnyH_take (i := 9) (oi := { dst := some 31, op := Op.indexAddr 26 (Operand.tmp 29) (Operand.tmp 30), type := 0, pos := "ref.go:29", after := #[{ on := 7, ground := Ground.data }, { on := 8, ground := Ground.data }, { on := 6, ground := Ground.guard }], guard := some (6, false) }) (v := ?_) rfl (by kernel_rfl) (by kernel_rfl) (by kernel_rfl) (fun _ _ _ h => h) (Or.inl ⟨by rfl, ?_⟩) (by assumption) ?_
                  rotate_left
                  · intro w hSw; (try dsimp only at hSw); go_simp; try (with_reducible rfl)
                  try simp only [Act.put, List.setIfInBounds_toArray, List.set_cons_zero, List.set_cons_succ]
                  refine wpAnyH_take (i := 10) (oi := { dst := some 32, op := Op.fieldAddr 32 (Operand.tmp 31) 3, type := 0, pos := "ref.go:29", after := #[{ on := 9, ground := Ground.data }, { on := 6, ground := Ground.guard }], guard := some (6, false) }) (v := ?_) rfl (by kernel_rfl) (by kernel_rfl) (by kernel_rfl) (fun _ _ _ h => h) (Or.inl ⟨by rfl, ?_⟩) (by assumption) ?_
                  rotate_left
                  · intro w hSw; (try dsimp only at hSw); go_simp; try (with_reducible rfl)
                  try simp only [Act.put, List.setIfInBounds_toArray, List.set_cons_zero, List.set_cons_succ]
                  refine wpAnyH_take (i := 11) (oi := { dst := some 33, op := Op.load 3 (Operand.tmp 32), type := 3, pos := "ref.go:29", after := #[{ on := 10, ground := Ground.data }, { on := 6, ground := Ground.guard }], guard := some (6, false) }) (v := ?_) rfl (by kernel_rfl) (by kernel_rfl) (by kernel_rfl) (fun _ _ _ h => h) (Or.inl ⟨by rfl, ?_⟩) (by assumption) ?_
                  rotate_left
                  · intro w hSw; (try dsimp only at hSw); go_simp; try (with_reducible rfl)
                  try simp only [Act.put, List.setIfInBounds_toArray, List.set_cons_zero, List.set_cons_succ]
                  refine wpAnyH_take (i := 12) (oi := { dst := some 34, op := Op.binOp BinOp.gtr 3 (Operand.tmp 33) (Operand.const (Value.int IntKind.i64 5)) 3, type := 4, pos := "ref.go:29", after := #[{ on := 11, ground := Ground.data }, { on := 6, ground := Ground.guard }], guard := some (6, false) }) (v := ?_) rfl (by kernel_rfl) (by kernel_rfl) (by kernel_rfl) (fun _ _ _ h => h) (Or.inl ⟨by rfl, ?_⟩) (by assumption) ?_
                  rotate_left
                  · intro w hSw; (try dsimp only at hSw); go_simp; try (with_reducible rfl)
                  try simp only [Act.put, List.setIfInBounds_toArray, List.set_cons_zero, List.set_cons_succ]
                  refine wpAnyH_take (i := 13) (oi := { dst := some 35, op := Op.pick (Operand.tmp 28) (Operand.const (Value.bool true)) (Operand.tmp 34), type := 4, pos := "ref.go:29", after := #[{ on := 6, ground := Ground.data }, { on := 12, ground := Ground.data }], guard := none }) (v := ?_) rfl (by kernel_rfl) (by kernel_rfl) (by kernel_rfl) (fun _ _ _ h => h) (Or.inl ⟨by rfl, ?_⟩) (by assumption) ?_
                  rotate_left
                  · intro w hSw; (try dsimp only at hSw); go_simp; try (with_reducible rfl)
                  try simp only [Act.put, List.setIfInBounds_toArray, List.set_cons_zero, List.set_cons_succ]
                  refine wpAnyH_take (i := 14) (oi := { dst := some 36, op := Op.move (Operand.tmp 35), type := 4, pos := "ref.go:29", after := #[{ on := 13, ground := Ground.data }, { on := 6, ground := Ground.chain }], guard := none }) (v := ?_) rfl (by kernel_rfl) (by kernel_rfl) (by kernel_rfl) (fun _ _ _ h => h) (Or.inl ⟨by rfl, ?_⟩) (by assumption) ?_
                  rotate_left
                  · intro w hSw; (try dsimp only at hSw); go_simp; try (with_reducible rfl)
                  try simp only [Act.put, List.setIfInBounds_toArray, List.set_cons_zero, List.set_cons_succ]
                  refine wpAnyH_take (i := 15) (oi := { dst := some 37, op := Op.move (Operand.tmp 6), type := 3, pos := "ref.go:29", after := #[{ on := 14, ground := Ground.guard }], guard := some (14, false) }) (v := ?_) rfl (by kernel_rfl) (by kernel_rfl) (by kernel_rfl) (fun _ _ _ h => h) (Or.inl ⟨by rfl, ?_⟩) (by assumption) ?_
                  rotate_left
                  · intro w hSw; (try dsimp only at hSw); go_simp; try (with_reducible rfl)
                  try simp only [Act.put, List.setIfInBounds_toArray, List.set_cons_zero, List.set_cons_succ]
                  refine wpAnyH_take (i := 16) (oi := { dst := some 38, op := Op.binOp BinOp.gtr 3 (Operand.tmp 37) (Operand.const (Value.int IntKind.i64 0)) 3, type := 4, pos := "ref.go:29", after := #[{ on := 15, ground := Ground.data }, { on := 14, ground := Ground.guard }], guard := some (14, false) }) (v := ?_) rfl (by kernel_rfl) (by kernel_rfl) (by kernel_rfl) (fun _ _ _ h => h) (Or.inl ⟨by rfl, ?_⟩) (by assumption) ?_
                  rotate_left
                  · intro w hSw; (try dsimp only at hSw); go_simp; try (with_reducible rfl)
                  try simp only [Act.put, List.setIfInBounds_toArray, List.set_cons_zero, List.set_cons_succ]
                  refine wpAnyH_take (i := 17) (oi := { dst := some 39, op := Op.move (Operand.tmp 38), type := 4, pos := "ref.go:29", after := #[{ on := 16, ground := Ground.data }, { on := 14, ground := Ground.chain }, { on := 14, ground := Ground.guard }], guard := some (14, false) }) (v := ?_) rfl (by kernel_rfl) (by kernel_rfl) (by kernel_rfl) (fun _ _ _ h => h) (Or.inl ⟨by rfl, ?_⟩) (by assumption) ?_
                  rotate_left
                  · intro w hSw; (try dsimp only at hSw); go_simp; try (with_reducible rfl)
                  try simp only [Act.put, List.setIfInBounds_toArray, List.set_cons_zero, List.set_cons_succ]
                  refine wpAnyH_take (i := 18) (oi := { dst := some 40, op := Op.move (Operand.tmp 1), type := 26, pos := "ref.go:29", after := #[{ on := 17, ground := Ground.guard }], guard := some (17, true) }) (v := ?_) rfl (by kernel_rfl) (by kernel_rfl) (by kernel_rfl) (fun _ _ _ h => h) (Or.inl ⟨by rfl, ?_⟩) (by assumption) ?_
                  rotate_left
                  · intro w hSw; (try dsimp only at hSw); go_simp; try (with_reducible rfl)
                  try simp only [Act.put, List.setIfInBounds_toArray, List.set_cons_zero, List.set_cons_succ]
                  refine wpAnyH_take (i := 19) (oi := { dst := some 41, op := Op.move (Operand.tmp 6), type := 3, pos := "ref.go:29", after := #[{ on := 17, ground := Ground.guard }], guard := some (17, true) }) (v := ?_) rfl (by kernel_rfl) (by kernel_rfl) (by kernel_rfl) (fun _ _ _ h => h) (Or.inl ⟨by rfl, ?_⟩) (by assumption) ?_
                  rotate_left
                  · intro w hSw; (try dsimp only at hSw); go_simp; try (with_reducible rfl)
                  try simp only [Act.put, List.setIfInBounds_toArray, List.set_cons_zero, List.set_cons_succ]
                  refine wpAnyH_take (i := 20) (oi := { dst := some 42, op := Op.binOp BinOp.sub 3 (Operand.tmp 41) (Operand.const (Value.int IntKind.i64 1)) 3, type := 3, pos := "ref.go:29", after := #[{ on := 19, ground := Ground.data }, { on := 17, ground := Ground.guard }], guard := some (17, true) }) (v := ?_) rfl (by kernel_rfl) (by kernel_rfl) (by kernel_rfl) (fun _ _ _ h => h) (Or.inl ⟨by rfl, ?_⟩) (by assumption) ?_
                  rotate_left
                  · intro w hSw; (try dsimp only at hSw); go_simp; try (with_reducible rfl)
                  try simp only [Act.put, List.setIfInBounds_toArray, List.set_cons_zero, List.set_cons_succ]
                  refine wpAnyH_take (i := 21) (oi := { dst := some 43, op := Op.indexAddr 26 (Operand.tmp 40) (Operand.tmp 42), type := 0, pos := "ref.go:29", after := #[{ on := 18, ground := Ground.data }, { on := 20, ground := Ground.data }, { on := 17, ground := Ground.guard }], guard := some (17, true) }) (v := ?_) rfl (by kernel_rfl) (by kernel_rfl) (by kernel_rfl) (fun _ _ _ h => h) (Or.inl ⟨by rfl, ?_⟩) (by assumption) ?_
                  rotate_left
                  · intro w hSw; (try dsimp only at hSw); go_simp; try (with_reducible rfl)
                  try simp only [Act.put, List.setIfInBounds_toArray, List.set_cons_zero, List.set_cons_succ]
                  refine wpAnyH_take (i := 22) (oi := { dst := some 44, op := Op.load 32 (Operand.tmp 43), type := 32, pos := "ref.go:29", after := #[{ on := 21, ground := Ground.data }, { on := 17, ground := Ground.guard }], guard := some (17, true) }) (v := ?_) rfl (by kernel_rfl) (by kernel_rfl) (by kernel_rfl) (fun _ _ _ h => h) (Or.inl ⟨by rfl, ?_⟩) (by assumption) ?_
                  rotate_left
                  · intro w hSw; (try dsimp only at hSw); go_simp; try (with_reducible rfl)
                  try simp only [Act.put, List.setIfInBounds_toArray, List.set_cons_zero, List.set_cons_succ]
                  refine wpAnyH_take (i := 23) (oi := { dst := some 45, op := Op.move (Operand.tmp 1), type := 26, pos := "ref.go:29", after := #[{ on := 17, ground := Ground.guard }], guard := some (17, true) }) (v := ?_) rfl (by kernel_rfl) (by kernel_rfl) (by kernel_rfl) (fun _ _ _ h => h) (Or.inl ⟨by rfl, ?_⟩) (by assumption) ?_
                  rotate_left
                  · intro w hSw; (try dsimp only at hSw); go_simp; try (with_reducible rfl)
                  try simp only [Act.put, List.setIfInBounds_toArray, List.set_cons_zero, List.set_cons_succ]
                  refine wpAnyH_take (i := 24) (oi := { dst := some 46, op := Op.move (Operand.tmp 6), type := 3, pos := "ref.go:29", after := #[{ on := 17, ground := Ground.guard }], guard := some (17, true) }) (v := ?_) rfl (by kernel_rfl) (by kernel_rfl) (by kernel_rfl) (fun _ _ _ h => h) (Or.inl ⟨by rfl, ?_⟩) (by assumption) ?_
                  rotate_left
                  · intro w hSw; (try dsimp only at hSw); go_simp; try (with_reducible rfl)
                  try simp only [Act.put, List.setIfInBounds_toArray, List.set_cons_zero, List.set_cons_succ]
                  refine wpAnyH_take (i := 25) (oi := { dst := some 47, op := Op.indexAddr 26 (Operand.tmp 45) (Operand.tmp 46), type := 0, pos := "ref.go:29", after := #[{ on := 23, ground := Ground.data }, { on := 24, ground := Ground.data }, { on := 17, ground := Ground.guard }], guard := some (17, true) }) (v := ?_) rfl (by kernel_rfl) (by kernel_rfl) (by kernel_rfl) (fun _ _ _ h => h) (Or.inl ⟨by rfl, ?_⟩) (by assumption) ?_
                  rotate_left
                  · intro w hSw; (try dsimp only at hSw); go_simp; try (with_reducible rfl)
                  try simp only [Act.put, List.setIfInBounds_toArray, List.set_cons_zero, List.set_cons_succ]
                  refine wpAnyH_take (i := 26) (oi := { dst := some 48, op := Op.load 32 (Operand.tmp 47), type := 32, pos := "ref.go:29", after := #[{ on := 25, ground := Ground.data }, { on := 17, ground := Ground.guard }], guard := some (17, true) }) (v := ?_) rfl (by kernel_rfl) (by kernel_rfl) (by kernel_rfl) (fun _ _ _ h => h) (Or.inl ⟨by rfl, ?_⟩) (by assumption) ?_
                  rotate_left
                  · intro w hSw; (try dsimp only at hSw); go_simp; try (with_reducible rfl)
                  try simp only [Act.put, List.setIfInBounds_toArray, List.set_cons_zero, List.set_cons_succ]
                  refine wpAnyH_ready (rs := [27]) (by kernel_rfl) (by simp) ?_
                  refine AllReadyH.cons (o := { dst := some 49, op := Op.call { callee := Callee.value (Operand.func 50), args := #[Operand.tmp 44, Operand.tmp 48], argTypes := #[32, 32] }, type := 4, pos := "ref.go:29", after := #[{ on := 22, ground := Ground.data }, { on := 26, ground := Ground.data }, { on := 17, ground := Ground.chain }, { on := 17, ground := Ground.guard }], guard := some (17, true) }) rfl (fun K hK => ?_) AllReadyH.nil
                  go_simp
                  refine (HLE.out _).mono ?_
                  rintro r w' ⟨rfl, hb⟩
                  try go_wp2_with fail
                  refine hK.out _ _ (rb3_keep hbz D.out (by assumption) hb) (fun hHeld2 => ?_)
                  clear hK K
                  try simp only [Act.put, List.setIfInBounds_toArray, List.set_cons_zero, List.set_cons_succ]
                  refine wpAnyH_take (i := 28) (oi := { dst := some 50, op := Op.unOp UnOp.not 4 (Operand.tmp 49), type := 4, pos := "ref.go:29", after := #[{ on := 27, ground := Ground.data }, { on := 17, ground := Ground.guard }], guard := some (17, true) }) (v := ?_) rfl (by kernel_rfl) (by kernel_rfl) (by kernel_rfl) (fun _ _ _ h => h) (Or.inl ⟨by rfl, ?_⟩) (by assumption) ?_
                  rotate_left
                  · intro w hSw; (try dsimp only at hSw); go_simp; try (with_reducible rfl)
                  try simp only [Act.put, List.setIfInBounds_toArray, List.set_cons_zero, List.set_cons_succ]
                  refine wpAnyH_take (i := 29) (oi := { dst := some 51, op := Op.pick (Operand.tmp 39) (Operand.tmp 50) (Operand.const (Value.bool false)), type := 4, pos := "ref.go:29", after := #[{ on := 17, ground := Ground.data }, { on := 28, ground := Ground.data }, { on := 14, ground := Ground.guard }], guard := some (14, false) }) (v := ?_) rfl (by kernel_rfl) (by kernel_rfl) (by kernel_rfl) (fun _ _ _ h => h) (Or.inl ⟨by rfl, ?_⟩) (by assumption) ?_
                  rotate_left
                  · intro w hSw; (try dsimp only at hSw); go_simp; try (with_reducible rfl)
                  try simp only [Act.put, List.setIfInBounds_toArray, List.set_cons_zero, List.set_cons_succ]
                  refine wpAnyH_take (i := 30) (oi := { dst := some 52, op := Op.pick (Operand.tmp 36) (Operand.const (Value.bool true)) (Operand.tmp 51), type := 4, pos := "ref.go:29", after := #[{ on := 14, ground := Ground.data }, { on := 29, ground := Ground.data }], guard := none }) (v := ?_) rfl (by kernel_rfl) (by kernel_rfl) (by kernel_rfl) (fun _ _ _ h => h) (Or.inl ⟨by rfl, ?_⟩) (by assumption) ?_
                  rotate_left
                  · intro w hSw; (try dsimp only at hSw); go_simp; try (with_reducible rfl)
                  try simp only [Act.put, List.setIfInBounds_toArray, List.set_cons_zero, List.set_cons_succ]
                  refine wpAnyH_done (by kernel_rfl) ?_ _
                  have HM2 := hid (rb2_of (by assumption))
                  clear a1 a2 a3 a4 a5 a6 a7 ex ey D b1 b2 b3 b4 b5 b6
                  go_wp2_with fail
                  go_ret
                  exact ⟨rfl, HM2.out.below⟩
        · obtain rfl : i = l := by omega
          have HOK : Hid (SOk i S) := hid ⟨hfew, HK.out.2, HK.out.1⟩
          clear hlt
          go_wp2_with fail
          go_loopw [7] (fun iv wr => ∃ q : Nat, q ≤ i ∧ iv = .int .i64 q ∧ Hid (∀ j, j < q → IsSpot n Z (S j).t (S j).p (S j).o) ∧ Hid (RB Wd Hd ao n cap Z bo m bcap B w wr)) (fun iv _ => i - (intOf iv).toNat)
          case atStart => exact ⟨0, Nat.zero_le _, rfl, hid (fun j hj => by omega), HM⟩
          case round =>
            clear HM
            obtain ⟨q, hq, rfl, HK2, HM⟩ := hrel
            by_cases hlt : q < i
            · obtain ⟨bl, off, rfl, hbz, D0⟩ := HS.out q hlt
              obtain ⟨y, hy⟩ : ∃ y, y = off + q * 4 := ⟨_, rfl⟩
              rw [← hy] at D0
              have D := hid D0
              have ey : off + q * 4 = y := hy.symm
              have a3 : (0 : Int) ≤ (q : Int) := by omega
              have a4 : (q : Int) < (i : Int) := by omega
              clear hy D0
              cases hli : Lie n Z (S q).t (S q).p
              · have he : e = 2 := by
                  have hno : ¬ Stand n Z i S := fun h => by have := (h q hlt).2; rw [hli] at this; cases this
                  rcases HE.out with ⟨_, h⟩ | ⟨h, _⟩ | ⟨_, _, h⟩
                  · exact absurd HOK.out h
                  · exact h
                  · exact absurd h hno
                subst he
                have HLI := hid (fun w hI => reflies_any Wd Hd ao n cap Z (.slice bo m bcap) (S q).t (S q).p HZ.out false hli w hI)
                clear hli
                go_upto_region 14 with fail
                refine wp_region_held_drew (S := (fun wr => RB Wd Hd ao n cap Z bo m bcap B w wr ∧ (wr.cell? ⟨w.heap.size, 0, none⟩ = some (.int .i64 Wd) ∧ wr.cell? ⟨w.heap.size, 1, none⟩ = some (.int .i64 Hd) ∧ wr.cell? ⟨w.heap.size, 2, none⟩ = some (.slice ao n cap) ∧ wr.cell? ⟨w.heap.size, 3, none⟩ = some (.slice bo m bcap)) ∧ (wr.cell? ⟨bl, y, none⟩ = some (.int .i64 (S q).t) ∧ wr.cell? ⟨bl, y + 1, none⟩ = some (.int .i64 (S q).p) ∧ wr.cell? ⟨bl, y + 2, none⟩ = some (.int .i64 (S q).o) ∧ wr.cell? ⟨bl, y + 3, none⟩ = some (.int .i64 (S q).k)))) (by kernel_rfl) (rb2_keep hbz rfl D.out (And.intro HM.out trivial) ((Below.refl _ _).drew)) (fun hHeld => ?_)
                refine wpAnyH_take (i := 0) (oi := { dst := some 59, op := Op.load 25 (Operand.tmp 2), type := 25, pos := "ref.go:34", after := #[], guard := none }) (v := ?_) rfl (by kernel_rfl) (by kernel_rfl) (by kernel_rfl) (fun _ _ _ h => h) (Or.inl ⟨by rfl, ?_⟩) (by assumption) ?_
                rotate_left
                · intro w hSw; (try dsimp only at hSw); go_simp; try (with_reducible rfl)
                try simp only [Act.put, List.setIfInBounds_toArray, List.set_cons_zero, List.set_cons_succ]
                refine wpAnyH_take (i := 1) (oi := { dst := some 60, op := Op.move (Operand.tmp 1), type := 26, pos := "ref.go:34", after := #[], guard := none }) (v := ?_) rfl (by kernel_rfl) (by kernel_rfl) (by kernel_rfl) (fun _ _ _ h => h) (Or.inl ⟨by rfl, ?_⟩) (by assumption) ?_
                rotate_left
                · intro w hSw; (try dsimp only at hSw); go_simp; try (with_reducible rfl)
                try simp only [Act.put, List.setIfInBounds_toArray, List.set_cons_zero, List.set_cons_succ]
                refine wpAnyH_take (i := 2) (oi := { dst := some 61, op := Op.move (Operand.tmp 7), type := 3, pos := "ref.go:34", after := #[], guard := none }) (v := ?_) rfl (by kernel_rfl) (by kernel_rfl) (by kernel_rfl) (fun _ _ _ h => h) (Or.inl ⟨by rfl, ?_⟩) (by assumption) ?_
                rotate_left
                · intro w hSw; (try dsimp only at hSw); go_simp; try (with_reducible rfl)
                try simp only [Act.put, List.setIfInBounds_toArray, List.set_cons_zero, List.set_cons_succ]
                refine wpAnyH_take (i := 3) (oi := { dst := some 62, op := Op.indexAddr 26 (Operand.tmp 60) (Operand.tmp 61), type := 0, pos := "ref.go:34", after := #[{ on := 1, ground := Ground.data }, { on := 2, ground := Ground.data }], guard := none }) (v := ?_) rfl (by kernel_rfl) (by kernel_rfl) (by kernel_rfl) (fun _ _ _ h => h) (Or.inl ⟨by rfl, ?_⟩) (by assumption) ?_
                rotate_left
                · intro w hSw; (try dsimp only at hSw); go_simp; try (with_reducible rfl)
                try simp only [Act.put, List.setIfInBounds_toArray, List.set_cons_zero, List.set_cons_succ]
                refine wpAnyH_take (i := 4) (oi := { dst := some 63, op := Op.fieldAddr 32 (Operand.tmp 62) 0, type := 0, pos := "ref.go:34", after := #[{ on := 3, ground := Ground.data }], guard := none }) (v := ?_) rfl (by kernel_rfl) (by kernel_rfl) (by kernel_rfl) (fun _ _ _ h => h) (Or.inl ⟨by rfl, ?_⟩) (by assumption) ?_
                rotate_left
                · intro w hSw; (try dsimp only at hSw); go_simp; try (with_reducible rfl)
                try simp only [Act.put, List.setIfInBounds_toArray, List.set_cons_zero, List.set_cons_succ]
                refine wpAnyH_take (i := 5) (oi := { dst := some 64, op := Op.load 3 (Operand.tmp 63), type := 3, pos := "ref.go:34", after := #[{ on := 4, ground := Ground.data }], guard := none }) (v := ?_) rfl (by kernel_rfl) (by kernel_rfl) (by kernel_rfl) (fun _ _ _ h => h) (Or.inl ⟨by rfl, ?_⟩) (by assumption) ?_
                rotate_left
                · intro w hSw; (try dsimp only at hSw); go_simp; try (with_reducible rfl)
                try simp only [Act.put, List.setIfInBounds_toArray, List.set_cons_zero, List.set_cons_succ]
                refine wpAnyH_take (i := 6) (oi := { dst := some 65, op := Op.move (Operand.tmp 1), type := 26, pos := "ref.go:34", after := #[], guard := none }) (v := ?_) rfl (by kernel_rfl) (by kernel_rfl) (by kernel_rfl) (fun _ _ _ h => h) (Or.inl ⟨by rfl, ?_⟩) (by assumption) ?_
                rotate_left
                · intro w hSw; (try dsimp only at hSw); go_simp; try (with_reducible rfl)
                try simp only [Act.put, List.setIfInBounds_toArray, List.set_cons_zero, List.set_cons_succ]
                refine wpAnyH_take (i := 7) (oi := { dst := some 66, op := Op.move (Operand.tmp 7), type := 3, pos := "ref.go:34", after := #[], guard := none }) (v := ?_) rfl (by kernel_rfl) (by kernel_rfl) (by kernel_rfl) (fun _ _ _ h => h) (Or.inl ⟨by rfl, ?_⟩) (by assumption) ?_
                rotate_left
                · intro w hSw; (try dsimp only at hSw); go_simp; try (with_reducible rfl)
                try simp only [Act.put, List.setIfInBounds_toArray, List.set_cons_zero, List.set_cons_succ]
                refine wpAnyH_take (i := 8) (oi := { dst := some 67, op := Op.indexAddr 26 (Operand.tmp 65) (Operand.tmp 66), type := 0, pos := "ref.go:34", after := #[{ on := 6, ground := Ground.data }, { on := 7, ground := Ground.data }], guard := none }) (v := ?_) rfl (by kernel_rfl) (by kernel_rfl) (by kernel_rfl) (fun _ _ _ h => h) (Or.inl ⟨by rfl, ?_⟩) (by assumption) ?_
                rotate_left
                · intro w hSw; (try dsimp only at hSw); go_simp; try (with_reducible rfl)
                try simp only [Act.put, List.setIfInBounds_toArray, List.set_cons_zero, List.set_cons_succ]
                refine wpAnyH_take (i := 9) (oi := { dst := some 68, op := Op.fieldAddr 32 (Operand.tmp 67) 1, type := 0, pos := "ref.go:34", after := #[{ on := 8, ground := Ground.data }], guard := none }) (v := ?_) rfl (by kernel_rfl) (by kernel_rfl) (by kernel_rfl) (fun _ _ _ h => h) (Or.inl ⟨by rfl, ?_⟩) (by assumption) ?_
                rotate_left
                · intro w hSw; (try dsimp only at hSw); go_simp; try (with_reducible rfl)
                try simp only [Act.put, List.setIfInBounds_toArray, List.set_cons_zero, List.set_cons_succ]
                refine wpAnyH_take (i := 10) (oi := { dst := some 69, op := Op.load 3 (Operand.tmp 68), type := 3, pos := "ref.go:34", after := #[{ on := 9, ground := Ground.data }], guard := none }) (v := ?_) rfl (by kernel_rfl) (by kernel_rfl) (by kernel_rfl) (fun _ _ _ h => h) (Or.inl ⟨by rfl, ?_⟩) (by assumption) ?_
                rotate_left
                · intro w hSw; (try dsimp only at hSw); go_simp; try (with_reducible rfl)
                try simp only [Act.put, List.setIfInBounds_toArray, List.set_cons_zero, List.set_cons_succ]
                refine wpAnyH_ready (rs := [11]) (by kernel_rfl) (by simp) ?_
                refine AllReadyH.cons (o := { dst := some 70, op := Op.call { callee := Callee.value (Operand.func 30), args := #[Operand.tmp 59, Operand.tmp 64, Operand.tmp 69], argTypes := #[25, 3, 3] }, type := 4, pos := "ref.go:34", after := #[{ on := 0, ground := Ground.data }, { on := 5, ground := Ground.data }, { on := 10, ground := Ground.data }], guard := none }) rfl (fun K hK => ?_) AllReadyH.nil
                go_simp
                refine (HLI.out _ (rb_ints (by assumption))).mono ?_
                rintro r w' ⟨rfl, hb⟩
                try go_wp2_with fail
                refine hK.out _ _ (rb2_keep hbz rfl D.out (by assumption) hb) (fun hHeld2 => ?_)
                clear hK K
                try simp only [Act.put, List.setIfInBounds_toArray, List.set_cons_zero, List.set_cons_succ]
                refine wpAnyH_take (i := 12) (oi := { dst := some 71, op := Op.unOp UnOp.not 4 (Operand.tmp 70), type := 4, pos := "ref.go:34", after := #[{ on := 11, ground := Ground.data }], guard := none }) (v := ?_) rfl (by kernel_rfl) (by kernel_rfl) (by kernel_rfl) (fun _ _ _ h => h) (Or.inl ⟨by rfl, ?_⟩) (by assumption) ?_
                rotate_left
                · intro w hSw; (try dsimp only at hSw); go_simp; try (with_reducible rfl)
                try simp only [Act.put, List.setIfInBounds_toArray, List.set_cons_zero, List.set_cons_succ]
                refine wpAnyH_take (i := 13) (oi := { dst := some 72, op := Op.move (Operand.tmp 71), type := 4, pos := "ref.go:34", after := #[{ on := 12, ground := Ground.data }, { on := 11, ground := Ground.chain }], guard := none }) (v := ?_) rfl (by kernel_rfl) (by kernel_rfl) (by kernel_rfl) (fun _ _ _ h => h) (Or.inl ⟨by rfl, ?_⟩) (by assumption) ?_
                rotate_left
                · intro w hSw; (try dsimp only at hSw); go_simp; try (with_reducible rfl)
                try simp only [Act.put, List.setIfInBounds_toArray, List.set_cons_zero, List.set_cons_succ]
                refine wpAnyH_take (i := 14) (oi := { dst := some 73, op := Op.move (Operand.tmp 1), type := 26, pos := "ref.go:34", after := #[{ on := 13, ground := Ground.guard }], guard := some (13, false) }) (v := undef) rfl (by kernel_rfl) (by kernel_rfl) (by kernel_rfl) (fun _ _ _ h => h) (Or.inr ⟨by rfl, rfl⟩) (by assumption) ?_
                try simp only [Act.put, List.setIfInBounds_toArray, List.set_cons_zero, List.set_cons_succ]
                refine wpAnyH_take (i := 15) (oi := { dst := some 74, op := Op.move (Operand.tmp 7), type := 3, pos := "ref.go:34", after := #[{ on := 13, ground := Ground.guard }], guard := some (13, false) }) (v := undef) rfl (by kernel_rfl) (by kernel_rfl) (by kernel_rfl) (fun _ _ _ h => h) (Or.inr ⟨by rfl, rfl⟩) (by assumption) ?_
                try simp only [Act.put, List.setIfInBounds_toArray, List.set_cons_zero, List.set_cons_succ]
                refine wpAnyH_take (i := 16) (oi := { dst := some 75, op := Op.indexAddr 26 (Operand.tmp 73) (Operand.tmp 74), type := 0, pos := "ref.go:34", after := #[{ on := 14, ground := Ground.data }, { on := 15, ground := Ground.data }, { on := 13, ground := Ground.guard }], guard := some (13, false) }) (v := undef) rfl (by kernel_rfl) (by kernel_rfl) (by kernel_rfl) (fun _ _ _ h => h) (Or.inr ⟨by rfl, rfl⟩) (by assumption) ?_
                try simp only [Act.put, List.setIfInBounds_toArray, List.set_cons_zero, List.set_cons_succ]
                refine wpAnyH_take (i := 17) (oi := { dst := some 76, op := Op.fieldAddr 32 (Operand.tmp 75) 1, type := 0, pos := "ref.go:34", after := #[{ on := 16, ground := Ground.data }, { on := 13, ground := Ground.guard }], guard := some (13, false) }) (v := undef) rfl (by kernel_rfl) (by kernel_rfl) (by kernel_rfl) (fun _ _ _ h => h) (Or.inr ⟨by rfl, rfl⟩) (by assumption) ?_
                try simp only [Act.put, List.setIfInBounds_toArray, List.set_cons_zero, List.set_cons_succ]
                refine wpAnyH_take (i := 18) (oi := { dst := some 77, op := Op.load 3 (Operand.tmp 76), type := 3, pos := "ref.go:34", after := #[{ on := 17, ground := Ground.data }, { on := 13, ground := Ground.guard }], guard := some (13, false) }) (v := undef) rfl (by kernel_rfl) (by kernel_rfl) (by kernel_rfl) (fun _ _ _ h => h) (Or.inr ⟨by rfl, rfl⟩) (by assumption) ?_
                try simp only [Act.put, List.setIfInBounds_toArray, List.set_cons_zero, List.set_cons_succ]
                refine wpAnyH_take (i := 19) (oi := { dst := some 78, op := Op.move (Operand.tmp 1), type := 26, pos := "ref.go:34", after := #[{ on := 13, ground := Ground.guard }], guard := some (13, false) }) (v := undef) rfl (by kernel_rfl) (by kernel_rfl) (by kernel_rfl) (fun _ _ _ h => h) (Or.inr ⟨by rfl, rfl⟩) (by assumption) ?_
                try simp only [Act.put, List.setIfInBounds_toArray, List.set_cons_zero, List.set_cons_succ]
                refine wpAnyH_take (i := 20) (oi := { dst := some 79, op := Op.move (Operand.tmp 7), type := 3, pos := "ref.go:34", after := #[{ on := 13, ground := Ground.guard }], guard := some (13, false) }) (v := undef) rfl (by kernel_rfl) (by kernel_rfl) (by kernel_rfl) (fun _ _ _ h => h) (Or.inr ⟨by rfl, rfl⟩) (by assumption) ?_
                try simp only [Act.put, List.setIfInBounds_toArray, List.set_cons_zero, List.set_cons_succ]
                refine wpAnyH_take (i := 21) (oi := { dst := some 80, op := Op.indexAddr 26 (Operand.tmp 78) (Operand.tmp 79), type := 0, pos := "ref.go:34", after := #[{ on := 19, ground := Ground.data }, { on := 20, ground := Ground.data }, { on := 13, ground := Ground.guard }], guard := some (13, false) }) (v := undef) rfl (by kernel_rfl) (by kernel_rfl) (by kernel_rfl) (fun _ _ _ h => h) (Or.inr ⟨by rfl, rfl⟩) (by assumption) ?_
                try simp only [Act.put, List.setIfInBounds_toArray, List.set_cons_zero, List.set_cons_succ]
                refine wpAnyH_take (i := 22) (oi := { dst := some 81, op := Op.fieldAddr 32 (Operand.tmp 80) 2, type := 0, pos := "ref.go:34", after := #[{ on := 21, ground := Ground.data }, { on := 13, ground := Ground.guard }], guard := some (13, false) }) (v := undef) rfl (by kernel_rfl) (by kernel_rfl) (by kernel_rfl) (fun _ _ _ h => h) (Or.inr ⟨by rfl, rfl⟩) (by assumption) ?_
                try simp only [Act.put, List.setIfInBounds_toArray, List.set_cons_zero, List.set_cons_succ]
                refine wpAnyH_take (i := 23) (oi := { dst := some 82, op := Op.load 3 (Operand.tmp 81), type := 3, pos := "ref.go:34", after := #[{ on := 22, ground := Ground.data }, { on := 13, ground := Ground.guard }], guard := some (13, false) }) (v := undef) rfl (by kernel_rfl) (by kernel_rfl) (by kernel_rfl) (fun _ _ _ h => h) (Or.inr ⟨by rfl, rfl⟩) (by assumption) ?_
                try simp only [Act.put, List.setIfInBounds_toArray, List.set_cons_zero, List.set_cons_succ]
                refine wpAnyH_take (i := 24) (oi := { dst := some 83, op := Op.call { callee := Callee.value (Operand.func 51), args := #[Operand.tmp 77, Operand.tmp 82], argTypes := #[3, 3] }, type := 4, pos := "ref.go:34", after := #[{ on := 18, ground := Ground.data }, { on := 23, ground := Ground.data }, { on := 13, ground := Ground.chain }, { on := 13, ground := Ground.guard }], guard := some (13, false) }) (v := undef) rfl (by kernel_rfl) (by kernel_rfl) (by kernel_rfl) (fun _ _ _ h => h) (Or.inr ⟨by rfl, rfl⟩) (by assumption) ?_
                try simp only [Act.put, List.setIfInBounds_toArray, List.set_cons_zero, List.set_cons_succ]
                refine wpAnyH_take (i := 25) (oi := { dst := some 84, op := Op.unOp UnOp.not 4 (Operand.tmp 83), type := 4, pos := "ref.go:34", after := #[{ on := 24, ground := Ground.data }, { on := 13, ground := Ground.guard }], guard := some (13, false) }) (v := undef) rfl (by kernel_rfl) (by kernel_rfl) (by kernel_rfl) (fun _ _ _ h => h) (Or.inr ⟨by rfl, rfl⟩) (by assumption) ?_
                try simp only [Act.put, List.setIfInBounds_toArray, List.set_cons_zero, List.set_cons_succ]
                refine wpAnyH_take (i := 26) (oi := { dst := some 85, op := Op.pick (Operand.tmp 72) (Operand.const (Value.bool true)) (Operand.tmp 84), type := 4, pos := "ref.go:34", after := #[{ on := 13, ground := Ground.data }, { on := 25, ground := Ground.data }], guard := none }) (v := ?_) rfl (by kernel_rfl) (by kernel_rfl) (by kernel_rfl) (fun _ _ _ h => h) (Or.inl ⟨by rfl, ?_⟩) (by assumption) ?_
                rotate_left
                · intro w hSw; (try dsimp only at hSw); go_simp; try (with_reducible rfl)
                try simp only [Act.put, List.setIfInBounds_toArray, List.set_cons_zero, List.set_cons_succ]
                refine wpAnyH_done (by kernel_rfl) ?_ _
                have HM2 := hid (rb2_of (by assumption))
                clear D a3 a4 ey
                go_wp2_with fail
                go_ret
                exact ⟨rfl, HM2.out.below⟩
              · have HLI := hid (fun w hI => reflies_any Wd Hd ao n cap Z (.slice bo m bcap) (S q).t (S q).p HZ.out true hli w hI)
                by_cases hot : 0 ≤ oth (S q).p (S q).o
                · have HHE := hid (fun w => hasEnd_any (S q).p (S q).o true ⟨fun _ => hot, fun _ => rfl⟩ w)
                  have HSP : Hid (IsSpot n Z (S q).t (S q).p (S q).o) := hid ⟨hot, hli⟩
                  clear hli hot
                  go_upto_region 14 with fail
                  refine wp_region_held_drew (S := (fun wr => RB Wd Hd ao n cap Z bo m bcap B w wr ∧ (wr.cell? ⟨w.heap.size, 0, none⟩ = some (.int .i64 Wd) ∧ wr.cell? ⟨w.heap.size, 1, none⟩ = some (.int .i64 Hd) ∧ wr.cell? ⟨w.heap.size, 2, none⟩ = some (.slice ao n cap) ∧ wr.cell? ⟨w.heap.size, 3, none⟩ = some (.slice bo m bcap)) ∧ (wr.cell? ⟨bl, y, none⟩ = some (.int .i64 (S q).t) ∧ wr.cell? ⟨bl, y + 1, none⟩ = some (.int .i64 (S q).p) ∧ wr.cell? ⟨bl, y + 2, none⟩ = some (.int .i64 (S q).o) ∧ wr.cell? ⟨bl, y + 3, none⟩ = some (.int .i64 (S q).k)))) (by kernel_rfl) (rb2_keep hbz rfl D.out (And.intro HM.out trivial) ((Below.refl _ _).drew)) (fun hHeld => ?_)
                  refine wpAnyH_take (i := 0) (oi := { dst := some 59, op := Op.load 25 (Operand.tmp 2), type := 25, pos := "ref.go:34", after := #[], guard := none }) (v := ?_) rfl (by kernel_rfl) (by kernel_rfl) (by kernel_rfl) (fun _ _ _ h => h) (Or.inl ⟨by rfl, ?_⟩) (by assumption) ?_
                  rotate_left
                  · intro w hSw; (try dsimp only at hSw); go_simp; try (with_reducible rfl)
                  try simp only [Act.put, List.setIfInBounds_toArray, List.set_cons_zero, List.set_cons_succ]
                  refine wpAnyH_take (i := 1) (oi := { dst := some 60, op := Op.move (Operand.tmp 1), type := 26, pos := "ref.go:34", after := #[], guard := none }) (v := ?_) rfl (by kernel_rfl) (by kernel_rfl) (by kernel_rfl) (fun _ _ _ h => h) (Or.inl ⟨by rfl, ?_⟩) (by assumption) ?_
                  rotate_left
                  · intro w hSw; (try dsimp only at hSw); go_simp; try (with_reducible rfl)
                  try simp only [Act.put, List.setIfInBounds_toArray, List.set_cons_zero, List.set_cons_succ]
                  refine wpAnyH_take (i := 2) (oi := { dst := some 61, op := Op.move (Operand.tmp 7), type := 3, pos := "ref.go:34", after := #[], guard := none }) (v := ?_) rfl (by kernel_rfl) (by kernel_rfl) (by kernel_rfl) (fun _ _ _ h => h) (Or.inl ⟨by rfl, ?_⟩) (by assumption) ?_
                  rotate_left
                  · intro w hSw; (try dsimp only at hSw); go_simp; try (with_reducible rfl)
                  try simp only [Act.put, List.setIfInBounds_toArray, List.set_cons_zero, List.set_cons_succ]
                  refine wpAnyH_take (i := 3) (oi := { dst := some 62, op := Op.indexAddr 26 (Operand.tmp 60) (Operand.tmp 61), type := 0, pos := "ref.go:34", after := #[{ on := 1, ground := Ground.data }, { on := 2, ground := Ground.data }], guard := none }) (v := ?_) rfl (by kernel_rfl) (by kernel_rfl) (by kernel_rfl) (fun _ _ _ h => h) (Or.inl ⟨by rfl, ?_⟩) (by assumption) ?_
                  rotate_left
                  · intro w hSw; (try dsimp only at hSw); go_simp; try (with_reducible rfl)
                  try simp only [Act.put, List.setIfInBounds_toArray, List.set_cons_zero, List.set_cons_succ]
                  refine wpAnyH_take (i := 4) (oi := { dst := some 63, op := Op.fieldAddr 32 (Operand.tmp 62) 0, type := 0, pos := "ref.go:34", after := #[{ on := 3, ground := Ground.data }], guard := none }) (v := ?_) rfl (by kernel_rfl) (by kernel_rfl) (by kernel_rfl) (fun _ _ _ h => h) (Or.inl ⟨by rfl, ?_⟩) (by assumption) ?_
                  rotate_left
                  · intro w hSw; (try dsimp only at hSw); go_simp; try (with_reducible rfl)
                  try simp only [Act.put, List.setIfInBounds_toArray, List.set_cons_zero, List.set_cons_succ]
                  refine wpAnyH_take (i := 5) (oi := { dst := some 64, op := Op.load 3 (Operand.tmp 63), type := 3, pos := "ref.go:34", after := #[{ on := 4, ground := Ground.data }], guard := none }) (v := ?_) rfl (by kernel_rfl) (by kernel_rfl) (by kernel_rfl) (fun _ _ _ h => h) (Or.inl ⟨by rfl, ?_⟩) (by assumption) ?_
                  rotate_left
                  · intro w hSw; (try dsimp only at hSw); go_simp; try (with_reducible rfl)
                  try simp only [Act.put, List.setIfInBounds_toArray, List.set_cons_zero, List.set_cons_succ]
                  refine wpAnyH_take (i := 6) (oi := { dst := some 65, op := Op.move (Operand.tmp 1), type := 26, pos := "ref.go:34", after := #[], guard := none }) (v := ?_) rfl (by kernel_rfl) (by kernel_rfl) (by kernel_rfl) (fun _ _ _ h => h) (Or.inl ⟨by rfl, ?_⟩) (by assumption) ?_
                  rotate_left
                  · intro w hSw; (try dsimp only at hSw); go_simp; try (with_reducible rfl)
                  try simp only [Act.put, List.setIfInBounds_toArray, List.set_cons_zero, List.set_cons_succ]
                  refine wpAnyH_take (i := 7) (oi := { dst := some 66, op := Op.move (Operand.tmp 7), type := 3, pos := "ref.go:34", after := #[], guard := none }) (v := ?_) rfl (by kernel_rfl) (by kernel_rfl) (by kernel_rfl) (fun _ _ _ h => h) (Or.inl ⟨by rfl, ?_⟩) (by assumption) ?_
                  rotate_left
                  · intro w hSw; (try dsimp only at hSw); go_simp; try (with_reducible rfl)
                  try simp only [Act.put, List.setIfInBounds_toArray, List.set_cons_zero, List.set_cons_succ]
                  refine wpAnyH_take (i := 8) (oi := { dst := some 67, op := Op.indexAddr 26 (Operand.tmp 65) (Operand.tmp 66), type := 0, pos := "ref.go:34", after := #[{ on := 6, ground := Ground.data }, { on := 7, ground := Ground.data }], guard := none }) (v := ?_) rfl (by kernel_rfl) (by kernel_rfl) (by kernel_rfl) (fun _ _ _ h => h) (Or.inl ⟨by rfl, ?_⟩) (by assumption) ?_
                  rotate_left
                  · intro w hSw; (try dsimp only at hSw); go_simp; try (with_reducible rfl)
                  try simp only [Act.put, List.setIfInBounds_toArray, List.set_cons_zero, List.set_cons_succ]
                  refine wpAnyH_take (i := 9) (oi := { dst := some 68, op := Op.fieldAddr 32 (Operand.tmp 67) 1, type := 0, pos := "ref.go:34", after := #[{ on := 8, ground := Ground.data }], guard := none }) (v := ?_) rfl (by kernel_rfl) (by kernel_rfl) (by kernel_rfl) (fun _ _ _ h => h) (Or.inl ⟨by rfl, ?_⟩) (by assumption) ?_
                  rotate_left
                  · intro w hSw; (try dsimp only at hSw); go_simp; try (with_reducible rfl)
                  try simp only [Act.put, List.setIfInBounds_toArray, List.set_cons_zero, List.set_cons_succ]
                  refine wpAnyH_take (i := 10) (oi := { dst := some 69, op := Op.load 3 (Operand.tmp 68), type := 3, pos := "ref.go:34", after := #[{ on := 9, ground := Ground.data }], guard := none }) (v := ?_) rfl (by kernel_rfl) (by kernel_rfl) (by kernel_rfl) (fun _ _ _ h => h) (Or.inl ⟨by rfl, ?_⟩) (by assumption) ?_
                  rotate_left
                  · intro w hSw; (try dsimp only at hSw); go_simp; try (with_reducible rfl)
                  try simp only [Act.put, List.setIfInBounds_toArray, List.set_cons_zero, List.set_cons_succ]
                  refine wpAnyH_ready (rs := [11]) (by kernel_rfl) (by simp) ?_
                  refine AllReadyH.cons (o := { dst := some 70, op := Op.call { callee := Callee.value (Operand.func 30), args := #[Operand.tmp 59, Operand.tmp 64, Operand.tmp 69], argTypes := #[25, 3, 3] }, type := 4, pos := "ref.go:34", after := #[{ on := 0, ground := Ground.data }, { on := 5, ground := Ground.data }, { on := 10, ground := Ground.data }], guard := none }) rfl (fun K hK => ?_) AllReadyH.nil
                  go_simp
                  refine (HLI.out _ (rb_ints (by assumption))).mono ?_
                  rintro r w' ⟨rfl, hb⟩
                  try go_wp2_with fail
                  refine hK.out _ _ (rb2_keep hbz rfl D.out (by assumption) hb) (fun hHeld2 => ?_)
                  clear hK K
                  try simp only [Act.put, List.setIfInBounds_toArray, List.set_cons_zero, List.set_cons_succ]
                  refine wpAnyH_take (i := 12) (oi := { dst := some 71, op := Op.unOp UnOp.not 4 (Operand.tmp 70), type := 4, pos := "ref.go:34", after := #[{ on := 11, ground := Ground.data }], guard := none }) (v := ?_) rfl (by kernel_rfl) (by kernel_rfl) (by kernel_rfl) (fun _ _ _ h => h) (Or.inl ⟨by rfl, ?_⟩) (by assumption) ?_
                  rotate_left
                  · intro w hSw; (try dsimp only at hSw); go_simp; try (with_reducible rfl)
                  try simp only [Act.put, List.setIfInBounds_toArray, List.set_cons_zero, List.set_cons_succ]
                  refine wpAnyH_take (i := 13) (oi := { dst := some 72, op := Op.move (Operand.tmp 71), type := 4, pos := "ref.go:34", after := #[{ on := 12, ground := Ground.data }, { on := 11, ground := Ground.chain }], guard := none }) (v := ?_) rfl (by kernel_rfl) (by kernel_rfl) (by kernel_rfl) (fun _ _ _ h => h) (Or.inl ⟨by rfl, ?_⟩) (by assumption) ?_
                  rotate_left
                  · intro w hSw; (try dsimp only at hSw); go_simp; try (with_reducible rfl)
                  try simp only [Act.put, List.setIfInBounds_toArray, List.set_cons_zero, List.set_cons_succ]
                  refine wpAnyH_take (i := 14) (oi := { dst := some 73, op := Op.move (Operand.tmp 1), type := 26, pos := "ref.go:34", after := #[{ on := 13, ground := Ground.guard }], guard := some (13, false) }) (v := ?_) rfl (by kernel_rfl) (by kernel_rfl) (by kernel_rfl) (fun _ _ _ h => h) (Or.inl ⟨by rfl, ?_⟩) (by assumption) ?_
                  rotate_left
                  · intro w hSw; (try dsimp only at hSw); go_simp; try (with_reducible rfl)
                  try simp only [Act.put, List.setIfInBounds_toArray, List.set_cons_zero, List.set_cons_succ]
                  refine wpAnyH_take (i := 15) (oi := { dst := some 74, op := Op.move (Operand.tmp 7), type := 3, pos := "ref.go:34", after := #[{ on := 13, ground := Ground.guard }], guard := some (13, false) }) (v := ?_) rfl (by kernel_rfl) (by kernel_rfl) (by kernel_rfl) (fun _ _ _ h => h) (Or.inl ⟨by rfl, ?_⟩) (by assumption) ?_
                  rotate_left
                  · intro w hSw; (try dsimp only at hSw); go_simp; try (with_reducible rfl)
                  try simp only [Act.put, List.setIfInBounds_toArray, List.set_cons_zero, List.set_cons_succ]
                  refine wpAnyH_take (i := 16) (oi := { dst := some 75, op := Op.indexAddr 26 (Operand.tmp 73) (Operand.tmp 74), type := 0, pos := "ref.go:34", after := #[{ on := 14, ground := Ground.data }, { on := 15, ground := Ground.data }, { on := 13, ground := Ground.guard }], guard := some (13, false) }) (v := ?_) rfl (by kernel_rfl) (by kernel_rfl) (by kernel_rfl) (fun _ _ _ h => h) (Or.inl ⟨by rfl, ?_⟩) (by assumption) ?_
                  rotate_left
                  · intro w hSw; (try dsimp only at hSw); go_simp; try (with_reducible rfl)
                  try simp only [Act.put, List.setIfInBounds_toArray, List.set_cons_zero, List.set_cons_succ]
                  refine wpAnyH_take (i := 17) (oi := { dst := some 76, op := Op.fieldAddr 32 (Operand.tmp 75) 1, type := 0, pos := "ref.go:34", after := #[{ on := 16, ground := Ground.data }, { on := 13, ground := Ground.guard }], guard := some (13, false) }) (v := ?_) rfl (by kernel_rfl) (by kernel_rfl) (by kernel_rfl) (fun _ _ _ h => h) (Or.inl ⟨by rfl, ?_⟩) (by assumption) ?_
                  rotate_left
                  · intro w hSw; (try dsimp only at hSw); go_simp; try (with_reducible rfl)
                  try simp only [Act.put, List.setIfInBounds_toArray, List.set_cons_zero, List.set_cons_succ]
                  refine wpAnyH_take (i := 18) (oi := { dst := some 77, op := Op.load 3 (Operand.tmp 76), type := 3, pos := "ref.go:34", after := #[{ on := 17, ground := Ground.data }, { on := 13, ground := Ground.guard }], guard := some (13, false) }) (v := ?_) rfl (by kernel_rfl) (by kernel_rfl) (by kernel_rfl) (fun _ _ _ h => h) (Or.inl ⟨by rfl, ?_⟩) (by assumption) ?_
                  rotate_left
                  · intro w hSw; (try dsimp only at hSw); go_simp; try (with_reducible rfl)
                  try simp only [Act.put, List.setIfInBounds_toArray, List.set_cons_zero, List.set_cons_succ]
                  refine wpAnyH_take (i := 19) (oi := { dst := some 78, op := Op.move (Operand.tmp 1), type := 26, pos := "ref.go:34", after := #[{ on := 13, ground := Ground.guard }], guard := some (13, false) }) (v := ?_) rfl (by kernel_rfl) (by kernel_rfl) (by kernel_rfl) (fun _ _ _ h => h) (Or.inl ⟨by rfl, ?_⟩) (by assumption) ?_
                  rotate_left
                  · intro w hSw; (try dsimp only at hSw); go_simp; try (with_reducible rfl)
                  try simp only [Act.put, List.setIfInBounds_toArray, List.set_cons_zero, List.set_cons_succ]
                  refine wpAnyH_take (i := 20) (oi := { dst := some 79, op := Op.move (Operand.tmp 7), type := 3, pos := "ref.go:34", after := #[{ on := 13, ground := Ground.guard }], guard := some (13, false) }) (v := ?_) rfl (by kernel_rfl) (by kernel_rfl) (by kernel_rfl) (fun _ _ _ h => h) (Or.inl ⟨by rfl, ?_⟩) (by assumption) ?_
                  rotate_left
                  · intro w hSw; (try dsimp only at hSw); go_simp; try (with_reducible rfl)
                  try simp only [Act.put, List.setIfInBounds_toArray, List.set_cons_zero, List.set_cons_succ]
                  refine wpAnyH_take (i := 21) (oi := { dst := some 80, op := Op.indexAddr 26 (Operand.tmp 78) (Operand.tmp 79), type := 0, pos := "ref.go:34", after := #[{ on := 19, ground := Ground.data }, { on := 20, ground := Ground.data }, { on := 13, ground := Ground.guard }], guard := some (13, false) }) (v := ?_) rfl (by kernel_rfl) (by kernel_rfl) (by kernel_rfl) (fun _ _ _ h => h) (Or.inl ⟨by rfl, ?_⟩) (by assumption) ?_
                  rotate_left
                  · intro w hSw; (try dsimp only at hSw); go_simp; try (with_reducible rfl)
                  try simp only [Act.put, List.setIfInBounds_toArray, List.set_cons_zero, List.set_cons_succ]
                  refine wpAnyH_take (i := 22) (oi := { dst := some 81, op := Op.fieldAddr 32 (Operand.tmp 80) 2, type := 0, pos := "ref.go:34", after := #[{ on := 21, ground := Ground.data }, { on := 13, ground := Ground.guard }], guard := some (13, false) }) (v := ?_) rfl (by kernel_rfl) (by kernel_rfl) (by kernel_rfl) (fun _ _ _ h => h) (Or.inl ⟨by rfl, ?_⟩) (by assumption) ?_
                  rotate_left
                  · intro w hSw; (try dsimp only at hSw); go_simp; try (with_reducible rfl)
                  try simp only [Act.put, List.setIfInBounds_toArray, List.set_cons_zero, List.set_cons_succ]
                  refine wpAnyH_take (i := 23) (oi := { dst := some 82, op := Op.load 3 (Operand.tmp 81), type := 3, pos := "ref.go:34", after := #[{ on := 22, ground := Ground.data }, { on := 13, ground := Ground.guard }], guard := some (13, false) }) (v := ?_) rfl (by kernel_rfl) (by kernel_rfl) (by kernel_rfl) (fun _ _ _ h => h) (Or.inl ⟨by rfl, ?_⟩) (by assumption) ?_
                  rotate_left
                  · intro w hSw; (try dsimp only at hSw); go_simp; try (with_reducible rfl)
                  try simp only [Act.put, List.setIfInBounds_toArray, List.set_cons_zero, List.set_cons_succ]
                  refine wpAnyH_ready (rs := [24]) (by kernel_rfl) (by simp) ?_
                  refine AllReadyH.cons (o := { dst := some 83, op := Op.call { callee := Callee.value (Operand.func 51), args := #[Operand.tmp 77, Operand.tmp 82], argTypes := #[3, 3] }, type := 4, pos := "ref.go:34", after := #[{ on := 18, ground := Ground.data }, { on := 23, ground := Ground.data }, { on := 13, ground := Ground.chain }, { on := 13, ground := Ground.guard }], guard := some (13, false) }) rfl (fun K hK => ?_) AllReadyH.nil
                  go_simp
                  refine (HHE.out _).mono ?_
                  rintro r w' ⟨rfl, hb⟩
                  try go_wp2_with fail
                  refine hK.out _ _ (rb2_keep hbz rfl D.out (by assumption) hb) (fun hHeld3 => ?_)
                  clear hK K
                  try simp only [Act.put, List.setIfInBounds_toArray, List.set_cons_zero, List.set_cons_succ]
                  refine wpAnyH_take (i := 25) (oi := { dst := some 84, op := Op.unOp UnOp.not 4 (Operand.tmp 83), type := 4, pos := "ref.go:34", after := #[{ on := 24, ground := Ground.data }, { on := 13, ground := Ground.guard }], guard := some (13, false) }) (v := ?_) rfl (by kernel_rfl) (by kernel_rfl) (by kernel_rfl) (fun _ _ _ h => h) (Or.inl ⟨by rfl, ?_⟩) (by assumption) ?_
                  rotate_left
                  · intro w hSw; (try dsimp only at hSw); go_simp; try (with_reducible rfl)
                  try simp only [Act.put, List.setIfInBounds_toArray, List.set_cons_zero, List.set_cons_succ]
                  refine wpAnyH_take (i := 26) (oi := { dst := some 85, op := Op.pick (Operand.tmp 72) (Operand.const (Value.bool true)) (Operand.tmp 84), type := 4, pos := "ref.go:34", after := #[{ on := 13, ground := Ground.data }, { on := 25, ground := Ground.data }], guard := none }) (v := ?_) rfl (by kernel_rfl) (by kernel_rfl) (by kernel_rfl) (fun _ _ _ h => h) (Or.inl ⟨by rfl, ?_⟩) (by assumption) ?_
                  rotate_left
                  · intro w hSw; (try dsimp only at hSw); go_simp; try (with_reducible rfl)
                  try simp only [Act.put, List.setIfInBounds_toArray, List.set_cons_zero, List.set_cons_succ]
                  refine wpAnyH_done (by kernel_rfl) ?_ _
                  have HM2 := hid (rb2_of (by assumption))
                  clear D a3 a4 ey
                  go_wp2_with fail
                  exact ⟨⟨q + 1, by omega, by go_num, hid (fun j hj => by
                    by_cases e : j = q
                    · subst e; exact HSP.out
                    · exact HK2.out j (by omega)), HM2⟩, by simp [intOf]; omega⟩
                · have HHE := hid (fun w => hasEnd_any (S q).p (S q).o false ⟨fun h => (by cases h), fun h => absurd h hot⟩ w)
                  have he : e = 2 := by
                    have hno : ¬ Stand n Z i S := fun h => hot (h q hlt).1
                    rcases HE.out with ⟨_, h⟩ | ⟨h, _⟩ | ⟨_, _, h⟩
                    · exact absurd HOK.out h
                    · exact h
                    · exact absurd h hno
                  subst he
                  clear hli hot
                  go_upto_region 14 with fail
                  refine wp_region_held_drew (S := (fun wr => RB Wd Hd ao n cap Z bo m bcap B w wr ∧ (wr.cell? ⟨w.heap.size, 0, none⟩ = some (.int .i64 Wd) ∧ wr.cell? ⟨w.heap.size, 1, none⟩ = some (.int .i64 Hd) ∧ wr.cell? ⟨w.heap.size, 2, none⟩ = some (.slice ao n cap) ∧ wr.cell? ⟨w.heap.size, 3, none⟩ = some (.slice bo m bcap)) ∧ (wr.cell? ⟨bl, y, none⟩ = some (.int .i64 (S q).t) ∧ wr.cell? ⟨bl, y + 1, none⟩ = some (.int .i64 (S q).p) ∧ wr.cell? ⟨bl, y + 2, none⟩ = some (.int .i64 (S q).o) ∧ wr.cell? ⟨bl, y + 3, none⟩ = some (.int .i64 (S q).k)))) (by kernel_rfl) (rb2_keep hbz rfl D.out (And.intro HM.out trivial) ((Below.refl _ _).drew)) (fun hHeld => ?_)
                  refine wpAnyH_take (i := 0) (oi := { dst := some 59, op := Op.load 25 (Operand.tmp 2), type := 25, pos := "ref.go:34", after := #[], guard := none }) (v := ?_) rfl (by kernel_rfl) (by kernel_rfl) (by kernel_rfl) (fun _ _ _ h => h) (Or.inl ⟨by rfl, ?_⟩) (by assumption) ?_
                  rotate_left
                  · intro w hSw; (try dsimp only at hSw); go_simp; try (with_reducible rfl)
                  try simp only [Act.put, List.setIfInBounds_toArray, List.set_cons_zero, List.set_cons_succ]
                  refine wpAnyH_take (i := 1) (oi := { dst := some 60, op := Op.move (Operand.tmp 1), type := 26, pos := "ref.go:34", after := #[], guard := none }) (v := ?_) rfl (by kernel_rfl) (by kernel_rfl) (by kernel_rfl) (fun _ _ _ h => h) (Or.inl ⟨by rfl, ?_⟩) (by assumption) ?_
                  rotate_left
                  · intro w hSw; (try dsimp only at hSw); go_simp; try (with_reducible rfl)
                  try simp only [Act.put, List.setIfInBounds_toArray, List.set_cons_zero, List.set_cons_succ]
                  refine wpAnyH_take (i := 2) (oi := { dst := some 61, op := Op.move (Operand.tmp 7), type := 3, pos := "ref.go:34", after := #[], guard := none }) (v := ?_) rfl (by kernel_rfl) (by kernel_rfl) (by kernel_rfl) (fun _ _ _ h => h) (Or.inl ⟨by rfl, ?_⟩) (by assumption) ?_
                  rotate_left
                  · intro w hSw; (try dsimp only at hSw); go_simp; try (with_reducible rfl)
                  try simp only [Act.put, List.setIfInBounds_toArray, List.set_cons_zero, List.set_cons_succ]
                  refine wpAnyH_take (i := 3) (oi := { dst := some 62, op := Op.indexAddr 26 (Operand.tmp 60) (Operand.tmp 61), type := 0, pos := "ref.go:34", after := #[{ on := 1, ground := Ground.data }, { on := 2, ground := Ground.data }], guard := none }) (v := ?_) rfl (by kernel_rfl) (by kernel_rfl) (by kernel_rfl) (fun _ _ _ h => h) (Or.inl ⟨by rfl, ?_⟩) (by assumption) ?_
                  rotate_left
                  · intro w hSw; (try dsimp only at hSw); go_simp; try (with_reducible rfl)
                  try simp only [Act.put, List.setIfInBounds_toArray, List.set_cons_zero, List.set_cons_succ]
                  refine wpAnyH_take (i := 4) (oi := { dst := some 63, op := Op.fieldAddr 32 (Operand.tmp 62) 0, type := 0, pos := "ref.go:34", after := #[{ on := 3, ground := Ground.data }], guard := none }) (v := ?_) rfl (by kernel_rfl) (by kernel_rfl) (by kernel_rfl) (fun _ _ _ h => h) (Or.inl ⟨by rfl, ?_⟩) (by assumption) ?_
                  rotate_left
                  · intro w hSw; (try dsimp only at hSw); go_simp; try (with_reducible rfl)
                  try simp only [Act.put, List.setIfInBounds_toArray, List.set_cons_zero, List.set_cons_succ]
                  refine wpAnyH_take (i := 5) (oi := { dst := some 64, op := Op.load 3 (Operand.tmp 63), type := 3, pos := "ref.go:34", after := #[{ on := 4, ground := Ground.data }], guard := none }) (v := ?_) rfl (by kernel_rfl) (by kernel_rfl) (by kernel_rfl) (fun _ _ _ h => h) (Or.inl ⟨by rfl, ?_⟩) (by assumption) ?_
                  rotate_left
                  · intro w hSw; (try dsimp only at hSw); go_simp; try (with_reducible rfl)
                  try simp only [Act.put, List.setIfInBounds_toArray, List.set_cons_zero, List.set_cons_succ]
                  refine wpAnyH_take (i := 6) (oi := { dst := some 65, op := Op.move (Operand.tmp 1), type := 26, pos := "ref.go:34", after := #[], guard := none }) (v := ?_) rfl (by kernel_rfl) (by kernel_rfl) (by kernel_rfl) (fun _ _ _ h => h) (Or.inl ⟨by rfl, ?_⟩) (by assumption) ?_
                  rotate_left
                  · intro w hSw; (try dsimp only at hSw); go_simp; try (with_reducible rfl)
                  try simp only [Act.put, List.setIfInBounds_toArray, List.set_cons_zero, List.set_cons_succ]
                  refine wpAnyH_take (i := 7) (oi := { dst := some 66, op := Op.move (Operand.tmp 7), type := 3, pos := "ref.go:34", after := #[], guard := none }) (v := ?_) rfl (by kernel_rfl) (by kernel_rfl) (by kernel_rfl) (fun _ _ _ h => h) (Or.inl ⟨by rfl, ?_⟩) (by assumption) ?_
                  rotate_left
                  · intro w hSw; (try dsimp only at hSw); go_simp; try (with_reducible rfl)
                  try simp only [Act.put, List.setIfInBounds_toArray, List.set_cons_zero, List.set_cons_succ]
                  refine wpAnyH_take (i := 8) (oi := { dst := some 67, op := Op.indexAddr 26 (Operand.tmp 65) (Operand.tmp 66), type := 0, pos := "ref.go:34", after := #[{ on := 6, ground := Ground.data }, { on := 7, ground := Ground.data }], guard := none }) (v := ?_) rfl (by kernel_rfl) (by kernel_rfl) (by kernel_rfl) (fun _ _ _ h => h) (Or.inl ⟨by rfl, ?_⟩) (by assumption) ?_
                  rotate_left
                  · intro w hSw; (try dsimp only at hSw); go_simp; try (with_reducible rfl)
                  try simp only [Act.put, List.setIfInBounds_toArray, List.set_cons_zero, List.set_cons_succ]
                  refine wpAnyH_take (i := 9) (oi := { dst := some 68, op := Op.fieldAddr 32 (Operand.tmp 67) 1, type := 0, pos := "ref.go:34", after := #[{ on := 8, ground := Ground.data }], guard := none }) (v := ?_) rfl (by kernel_rfl) (by kernel_rfl) (by kernel_rfl) (fun _ _ _ h => h) (Or.inl ⟨by rfl, ?_⟩) (by assumption) ?_
                  rotate_left
                  · intro w hSw; (try dsimp only at hSw); go_simp; try (with_reducible rfl)
                  try simp only [Act.put, List.setIfInBounds_toArray, List.set_cons_zero, List.set_cons_succ]
                  refine wpAnyH_take (i := 10) (oi := { dst := some 69, op := Op.load 3 (Operand.tmp 68), type := 3, pos := "ref.go:34", after := #[{ on := 9, ground := Ground.data }], guard := none }) (v := ?_) rfl (by kernel_rfl) (by kernel_rfl) (by kernel_rfl) (fun _ _ _ h => h) (Or.inl ⟨by rfl, ?_⟩) (by assumption) ?_
                  rotate_left
                  · intro w hSw; (try dsimp only at hSw); go_simp; try (with_reducible rfl)
                  try simp only [Act.put, List.setIfInBounds_toArray, List.set_cons_zero, List.set_cons_succ]
                  refine wpAnyH_ready (rs := [11]) (by kernel_rfl) (by simp) ?_
                  refine AllReadyH.cons (o := { dst := some 70, op := Op.call { callee := Callee.value (Operand.func 30), args := #[Operand.tmp 59, Operand.tmp 64, Operand.tmp 69], argTypes := #[25, 3, 3] }, type := 4, pos := "ref.go:34", after := #[{ on := 0, ground := Ground.data }, { on := 5, ground := Ground.data }, { on := 10, ground := Ground.data }], guard := none }) rfl (fun K hK => ?_) AllReadyH.nil
                  go_simp
                  refine (HLI.out _ (rb_ints (by assumption))).mono ?_
                  rintro r w' ⟨rfl, hb⟩
                  try go_wp2_with fail
                  refine hK.out _ _ (rb2_keep hbz rfl D.out (by assumption) hb) (fun hHeld2 => ?_)
                  clear hK K
                  try simp only [Act.put, List.setIfInBounds_toArray, List.set_cons_zero, List.set_cons_succ]
                  refine wpAnyH_take (i := 12) (oi := { dst := some 71, op := Op.unOp UnOp.not 4 (Operand.tmp 70), type := 4, pos := "ref.go:34", after := #[{ on := 11, ground := Ground.data }], guard := none }) (v := ?_) rfl (by kernel_rfl) (by kernel_rfl) (by kernel_rfl) (fun _ _ _ h => h) (Or.inl ⟨by rfl, ?_⟩) (by assumption) ?_
                  rotate_left
                  · intro w hSw; (try dsimp only at hSw); go_simp; try (with_reducible rfl)
                  try simp only [Act.put, List.setIfInBounds_toArray, List.set_cons_zero, List.set_cons_succ]
                  refine wpAnyH_take (i := 13) (oi := { dst := some 72, op := Op.move (Operand.tmp 71), type := 4, pos := "ref.go:34", after := #[{ on := 12, ground := Ground.data }, { on := 11, ground := Ground.chain }], guard := none }) (v := ?_) rfl (by kernel_rfl) (by kernel_rfl) (by kernel_rfl) (fun _ _ _ h => h) (Or.inl ⟨by rfl, ?_⟩) (by assumption) ?_
                  rotate_left
                  · intro w hSw; (try dsimp only at hSw); go_simp; try (with_reducible rfl)
                  try simp only [Act.put, List.setIfInBounds_toArray, List.set_cons_zero, List.set_cons_succ]
                  refine wpAnyH_take (i := 14) (oi := { dst := some 73, op := Op.move (Operand.tmp 1), type := 26, pos := "ref.go:34", after := #[{ on := 13, ground := Ground.guard }], guard := some (13, false) }) (v := ?_) rfl (by kernel_rfl) (by kernel_rfl) (by kernel_rfl) (fun _ _ _ h => h) (Or.inl ⟨by rfl, ?_⟩) (by assumption) ?_
                  rotate_left
                  · intro w hSw; (try dsimp only at hSw); go_simp; try (with_reducible rfl)
                  try simp only [Act.put, List.setIfInBounds_toArray, List.set_cons_zero, List.set_cons_succ]
                  refine wpAnyH_take (i := 15) (oi := { dst := some 74, op := Op.move (Operand.tmp 7), type := 3, pos := "ref.go:34", after := #[{ on := 13, ground := Ground.guard }], guard := some (13, false) }) (v := ?_) rfl (by kernel_rfl) (by kernel_rfl) (by kernel_rfl) (fun _ _ _ h => h) (Or.inl ⟨by rfl, ?_⟩) (by assumption) ?_
                  rotate_left
                  · intro w hSw; (try dsimp only at hSw); go_simp; try (with_reducible rfl)
                  try simp only [Act.put, List.setIfInBounds_toArray, List.set_cons_zero, List.set_cons_succ]
                  refine wpAnyH_take (i := 16) (oi := { dst := some 75, op := Op.indexAddr 26 (Operand.tmp 73) (Operand.tmp 74), type := 0, pos := "ref.go:34", after := #[{ on := 14, ground := Ground.data }, { on := 15, ground := Ground.data }, { on := 13, ground := Ground.guard }], guard := some (13, false) }) (v := ?_) rfl (by kernel_rfl) (by kernel_rfl) (by kernel_rfl) (fun _ _ _ h => h) (Or.inl ⟨by rfl, ?_⟩) (by assumption) ?_
                  rotate_left
                  · intro w hSw; (try dsimp only at hSw); go_simp; try (with_reducible rfl)
                  try simp only [Act.put, List.setIfInBounds_toArray, List.set_cons_zero, List.set_cons_succ]
                  refine wpAnyH_take (i := 17) (oi := { dst := some 76, op := Op.fieldAddr 32 (Operand.tmp 75) 1, type := 0, pos := "ref.go:34", after := #[{ on := 16, ground := Ground.data }, { on := 13, ground := Ground.guard }], guard := some (13, false) }) (v := ?_) rfl (by kernel_rfl) (by kernel_rfl) (by kernel_rfl) (fun _ _ _ h => h) (Or.inl ⟨by rfl, ?_⟩) (by assumption) ?_
                  rotate_left
                  · intro w hSw; (try dsimp only at hSw); go_simp; try (with_reducible rfl)
                  try simp only [Act.put, List.setIfInBounds_toArray, List.set_cons_zero, List.set_cons_succ]
                  refine wpAnyH_take (i := 18) (oi := { dst := some 77, op := Op.load 3 (Operand.tmp 76), type := 3, pos := "ref.go:34", after := #[{ on := 17, ground := Ground.data }, { on := 13, ground := Ground.guard }], guard := some (13, false) }) (v := ?_) rfl (by kernel_rfl) (by kernel_rfl) (by kernel_rfl) (fun _ _ _ h => h) (Or.inl ⟨by rfl, ?_⟩) (by assumption) ?_
                  rotate_left
                  · intro w hSw; (try dsimp only at hSw); go_simp; try (with_reducible rfl)
                  try simp only [Act.put, List.setIfInBounds_toArray, List.set_cons_zero, List.set_cons_succ]
                  refine wpAnyH_take (i := 19) (oi := { dst := some 78, op := Op.move (Operand.tmp 1), type := 26, pos := "ref.go:34", after := #[{ on := 13, ground := Ground.guard }], guard := some (13, false) }) (v := ?_) rfl (by kernel_rfl) (by kernel_rfl) (by kernel_rfl) (fun _ _ _ h => h) (Or.inl ⟨by rfl, ?_⟩) (by assumption) ?_
                  rotate_left
                  · intro w hSw; (try dsimp only at hSw); go_simp; try (with_reducible rfl)
                  try simp only [Act.put, List.setIfInBounds_toArray, List.set_cons_zero, List.set_cons_succ]
                  refine wpAnyH_take (i := 20) (oi := { dst := some 79, op := Op.move (Operand.tmp 7), type := 3, pos := "ref.go:34", after := #[{ on := 13, ground := Ground.guard }], guard := some (13, false) }) (v := ?_) rfl (by kernel_rfl) (by kernel_rfl) (by kernel_rfl) (fun _ _ _ h => h) (Or.inl ⟨by rfl, ?_⟩) (by assumption) ?_
                  rotate_left
                  · intro w hSw; (try dsimp only at hSw); go_simp; try (with_reducible rfl)
                  try simp only [Act.put, List.setIfInBounds_toArray, List.set_cons_zero, List.set_cons_succ]
                  refine wpAnyH_take (i := 21) (oi := { dst := some 80, op := Op.indexAddr 26 (Operand.tmp 78) (Operand.tmp 79), type := 0, pos := "ref.go:34", after := #[{ on := 19, ground := Ground.data }, { on := 20, ground := Ground.data }, { on := 13, ground := Ground.guard }], guard := some (13, false) }) (v := ?_) rfl (by kernel_rfl) (by kernel_rfl) (by kernel_rfl) (fun _ _ _ h => h) (Or.inl ⟨by rfl, ?_⟩) (by assumption) ?_
                  rotate_left
                  · intro w hSw; (try dsimp only at hSw); go_simp; try (with_reducible rfl)
                  try simp only [Act.put, List.setIfInBounds_toArray, List.set_cons_zero, List.set_cons_succ]
                  refine wpAnyH_take (i := 22) (oi := { dst := some 81, op := Op.fieldAddr 32 (Operand.tmp 80) 2, type := 0, pos := "ref.go:34", after := #[{ on := 21, ground := Ground.data }, { on := 13, ground := Ground.guard }], guard := some (13, false) }) (v := ?_) rfl (by kernel_rfl) (by kernel_rfl) (by kernel_rfl) (fun _ _ _ h => h) (Or.inl ⟨by rfl, ?_⟩) (by assumption) ?_
                  rotate_left
                  · intro w hSw; (try dsimp only at hSw); go_simp; try (with_reducible rfl)
                  try simp only [Act.put, List.setIfInBounds_toArray, List.set_cons_zero, List.set_cons_succ]
                  refine wpAnyH_take (i := 23) (oi := { dst := some 82, op := Op.load 3 (Operand.tmp 81), type := 3, pos := "ref.go:34", after := #[{ on := 22, ground := Ground.data }, { on := 13, ground := Ground.guard }], guard := some (13, false) }) (v := ?_) rfl (by kernel_rfl) (by kernel_rfl) (by kernel_rfl) (fun _ _ _ h => h) (Or.inl ⟨by rfl, ?_⟩) (by assumption) ?_
                  rotate_left
                  · intro w hSw; (try dsimp only at hSw); go_simp; try (with_reducible rfl)
                  try simp only [Act.put, List.setIfInBounds_toArray, List.set_cons_zero, List.set_cons_succ]
                  refine wpAnyH_ready (rs := [24]) (by kernel_rfl) (by simp) ?_
                  refine AllReadyH.cons (o := { dst := some 83, op := Op.call { callee := Callee.value (Operand.func 51), args := #[Operand.tmp 77, Operand.tmp 82], argTypes := #[3, 3] }, type := 4, pos := "ref.go:34", after := #[{ on := 18, ground := Ground.data }, { on := 23, ground := Ground.data }, { on := 13, ground := Ground.chain }, { on := 13, ground := Ground.guard }], guard := some (13, false) }) rfl (fun K hK => ?_) AllReadyH.nil
                  go_simp
                  refine (HHE.out _).mono ?_
                  rintro r w' ⟨rfl, hb⟩
                  try go_wp2_with fail
                  refine hK.out _ _ (rb2_keep hbz rfl D.out (by assumption) hb) (fun hHeld3 => ?_)
                  clear hK K
                  try simp only [Act.put, List.setIfInBounds_toArray, List.set_cons_zero, List.set_cons_succ]
                  refine wpAnyH_take (i := 25) (oi := { dst := some 84, op := Op.unOp UnOp.not 4 (Operand.tmp 83), type := 4, pos := "ref.go:34", after := #[{ on := 24, ground := Ground.data }, { on := 13, ground := Ground.guard }], guard := some (13, false) }) (v := ?_) rfl (by kernel_rfl) (by kernel_rfl) (by kernel_rfl) (fun _ _ _ h => h) (Or.inl ⟨by rfl, ?_⟩) (by assumption) ?_
                  rotate_left
                  · intro w hSw; (try dsimp only at hSw); go_simp; try (with_reducible rfl)
                  try simp only [Act.put, List.setIfInBounds_toArray, List.set_cons_zero, List.set_cons_succ]
                  refine wpAnyH_take (i := 26) (oi := { dst := some 85, op := Op.pick (Operand.tmp 72) (Operand.const (Value.bool true)) (Operand.tmp 84), type := 4, pos := "ref.go:34", after := #[{ on := 13, ground := Ground.data }, { on := 25, ground := Ground.data }], guard := none }) (v := ?_) rfl (by kernel_rfl) (by kernel_rfl) (by kernel_rfl) (fun _ _ _ h => h) (Or.inl ⟨by rfl, ?_⟩) (by assumption) ?_
                  rotate_left
                  · intro w hSw; (try dsimp only at hSw); go_simp; try (with_reducible rfl)
                  try simp only [Act.put, List.setIfInBounds_toArray, List.set_cons_zero, List.set_cons_succ]
                  refine wpAnyH_done (by kernel_rfl) ?_ _
                  have HM2 := hid (rb2_of (by assumption))
                  clear D a3 a4 ey
                  go_wp2_with fail
                  go_ret
                  exact ⟨rfl, HM2.out.below⟩
            · obtain rfl : q = i := by omega
              have he : e = 0 := by
                rcases HE.out with ⟨_, h⟩ | ⟨_, _, h⟩ | ⟨h, _⟩
                · exact absurd HOK.out h
                · exact absurd HK2.out h
                · exact h
              subst he
              clear hlt
              go_wp2_with fail
              go_ret
              exact ⟨rfl, HM.out.below⟩
    · have he : e = 1 := by
        rcases HE.out with ⟨h, _⟩ | ⟨_, h, _⟩ | ⟨_, h, _⟩
        · exact h
        · exact absurd h.few hfew
        · exact absurd h.few hfew
      subst he
      have hmany : (300 : Int) < (l : Int) := by omega
      go_enter Tryd.func18, Tryd.ntmps18
      go_upto_region 1 with fail
      generalize World.alloc w _ = wm at HM ⊢
      have c0 := HM.out.c0; have c1 := HM.out.c1; have c2 := HM.out.c2; have c3 := HM.out.c3; have hz := HM.out.size
      go_wp2_with (go_at_call 49; (with_reducible refine (refvalidate_any Wd Hd ao n cap Z bo m bcap B hn hm _ HM.out.ints HM.out.bools 0 HV.out).mono ?_); rintro e w1 ⟨rfl, hb⟩; have HN := hid (HM.out.stays hb); clear hb c0 c1 c2 c3 hz HM; have HM := HN; clear HN; have c0 := HM.out.c0; have c1 := HM.out.c1; have c2 := HM.out.c2; have c3 := HM.out.c3; have hz := HM.out.size)
      go_ret
      exact ⟨rfl, HM.out.below⟩
theorem drvalidate_to (d : Rl) (hb : Bnd d) (e : Int) (h : DErr d e) (w : World) (hH : Has d w) :
    Calls Tryd.prog 18 #[d.rv, d.ls] w fun r w' => r = .returned (.int .i64 e) ∧ Below w.heap.size w w' :=
  rbvalidate_to d.W d.H d.ao d.n d.cap d.Z d.bo d.m d.bcap d.B d.lo d.l d.lcap d.S hb.n hb.m hb.l e h w hH.tab hH.ints hH.bools hH.sigs
set_option maxHeartbeats 1600000 in
theorem far_any (d : Rl) (hb : Bnd d) (f : Bool) (hf : f = true ↔ 1100 < d.n ∨ 1100 < d.m ∨ 400 < d.l) (w : World) :
    Calls Tryd.prog 16 #[d.rv, d.ls] w fun r w' => r = .returned (.bool f) ∧ Below w.heap.size w w' := by
  have HW := hid (Joins.below_alloc1 w (.cells #[.int .i64 d.W, .int .i64 d.H, d.as, d.bs] 25))
  have hn := hb.n
  have hm := hb.m
  have hl := hb.l
  have HF := hid hf
  clear hf hb
  obtain ⟨W, H, n, cap, m, bcap, l, lcap, ao, bo, lo, Z, B, S⟩ := d
  dsimp only at hn hm hl HF HW ⊢
  by_cases h1 : 1100 < n
  · have hft : f = true := HF.out.2 (.inl h1)
    subst hft
    have g1 : decide ((1100 : Int) < (n : Int)) = true := by simp; omega
    clear HF
    go_enter Tryd.func16, Tryd.ntmps16
    go_wp2_with fail
    go_ret
    exact ⟨rfl, HW.out⟩
  · have g1 : decide ((1100 : Int) < (n : Int)) = false := by simp; omega
    by_cases h2 : 1100 < m
    · have hft : f = true := HF.out.2 (.inr (.inl h2))
      subst hft
      have g2 : decide ((1100 : Int) < (m : Int)) = true := by simp; omega
      clear HF
      go_enter Tryd.func16, Tryd.ntmps16
      go_wp2_with fail
      go_ret
      exact ⟨rfl, HW.out⟩
    · have g2 : decide ((1100 : Int) < (m : Int)) = false := by simp; omega
      have g3 : decide ((400 : Int) < (l : Int)) = f := by
        rw [Bool.eq_iff_iff, HF.out]; simp; omega
      clear HF
      go_enter Tryd.func16, Tryd.ntmps16
      go_wp2_with fail
      go_ret
      exact ⟨by first | rfl | (rw [← g3]; rfl), HW.out⟩
end Go.Proofs.YtbfpcolkbfljoaaDoor
