/-
  The span that is dropped: the walk of Drop of the reference.
-/
import Derived.Test.YtpohhcmkkjcelaaSDrp
import Derived.Test.YtpohhcmkkjcelaaSRLErr
namespace Go.Proofs.Ytpohhcmkkjcelaa
open Go.RowKit

theorem rd_keep {W H : Int} {ao : Option Addr} {n cap : Nat} {Z : Nat → Int} {w wr w' : World} {bl y : Nat} {k p q u : Int} {P : Prop} (hz : bl < w.heap.size) (D : w.cell? ⟨bl, y, none⟩ = some (.int .i64 k) ∧ w.cell? ⟨bl, y + 1, none⟩ = some (.int .i64 p) ∧ w.cell? ⟨bl, y + 2, none⟩ = some (.int .i64 q) ∧ w.cell? ⟨bl, y + 3, none⟩ = some (.int .i64 u)) (h : LB W H ao n cap Z w wr ∧ P) (hb : Below wr.heap.size wr w') : LB W H ao n cap Z w w' ∧ w'.cell? ⟨w.heap.size, 0, none⟩ = some (.int .i64 W) ∧ w'.cell? ⟨w.heap.size, 1, none⟩ = some (.int .i64 H) ∧ w'.cell? ⟨w.heap.size, 2, none⟩ = some (.slice ao n cap) ∧ w'.cell? ⟨bl, y, none⟩ = some (.int .i64 k) ∧ w'.cell? ⟨bl, y + 1, none⟩ = some (.int .i64 p) ∧ w'.cell? ⟨bl, y + 2, none⟩ = some (.int .i64 q) ∧ w'.cell? ⟨bl, y + 3, none⟩ = some (.int .i64 u) :=
  have h2 := h.1.stays hb
  have c : ∀ (i : Nat) (x : Value), w.cell? ⟨bl, i, none⟩ = some x → w'.cell? ⟨bl, i, none⟩ = some x := fun i _ e => (h2.below.cell (p := ⟨bl, i, none⟩) hz).trans e
  ⟨h2, h2.c0, h2.c1, h2.c2, c _ _ D.1, c _ _ D.2.1, c _ _ D.2.2.1, c _ _ D.2.2.2⟩
theorem rd_app {W H : Int} {ao : Option Addr} {n cap : Nat} {Z : Nat → Int} {w wr w' : World} {bl y : Nat} {k p q u : Int} {P : Prop} {v : Value} (hI : Ints w ao n Z) (hz : bl < w.heap.size) (D : w.cell? ⟨bl, y, none⟩ = some (.int .i64 k) ∧ w.cell? ⟨bl, y + 1, none⟩ = some (.int .i64 p) ∧ w.cell? ⟨bl, y + 2, none⟩ = some (.int .i64 q) ∧ w.cell? ⟨bl, y + 3, none⟩ = some (.int .i64 u)) (h : LB W H ao n cap Z w wr ∧ P) (hg : wr.grownBy w' v.ownBlock) (hv : ∀ j, v.ownBlock = some j → w.heap.size + 1 ≤ j) : LB W H ao n cap Z w w' ∧ w'.cell? ⟨w.heap.size, 0, none⟩ = some (.int .i64 W) ∧ w'.cell? ⟨w.heap.size, 1, none⟩ = some (.int .i64 H) ∧ w'.cell? ⟨w.heap.size, 2, none⟩ = some (.slice ao n cap) ∧ w'.cell? ⟨bl, y, none⟩ = some (.int .i64 k) ∧ w'.cell? ⟨bl, y + 1, none⟩ = some (.int .i64 p) ∧ w'.cell? ⟨bl, y + 2, none⟩ = some (.int .i64 q) ∧ w'.cell? ⟨bl, y + 3, none⟩ = some (.int .i64 u) :=
  have hb : Below (w.heap.size + 1) wr w' := ((Below.refl _ wr)).grown hg (by have := h.1.size; omega) hv
  have h2 := h.1.low hI hb
  have c : ∀ (i : Nat) (x : Value), w.cell? ⟨bl, i, none⟩ = some x → w'.cell? ⟨bl, i, none⟩ = some x := fun i _ e => (h2.below.cell (p := ⟨bl, i, none⟩) hz).trans e
  ⟨h2, h2.c0, h2.c1, h2.c2, c _ _ D.1, c _ _ D.2.1, c _ _ D.2.2.1, c _ _ D.2.2.2⟩
theorem rd_ints {W H : Int} {ao : Option Addr} {n cap : Nat} {Z : Nat → Int} {w wr : World} {P : Prop} (h : LB W H ao n cap Z w wr ∧ P) : Ints wr ao n Z := h.1.ints
theorem rd_of {W H : Int} {ao : Option Addr} {n cap : Nat} {Z : Nat → Int} {w wr : World} {P : Prop} (h : LB W H ao n cap Z w wr ∧ P) : LB W H ao n cap Z w wr := h.1
theorem hdP_no {t a b : Int} (h : (t == a || t == b) = false) : (a == t) = false ∧ (b == t) = false := by
  rw [Bool.or_eq_false_iff, beq_eq_false_iff_ne, beq_eq_false_iff_ne] at h
  rw [beq_eq_false_iff_ne, beq_eq_false_iff_ne]
  exact ⟨fun k => h.1 k.symm, fun k => h.2 k.symm⟩
theorem hdP_yes {t a b : Int} (h : (t == a || t == b) = true) : (a == t) = true ∨ ((a == t) = false ∧ (b == t) = true) := by
  by_cases h1 : a = t
  · exact .inl (by rw [beq_iff_eq]; exact h1)
  · refine .inr ⟨by rw [beq_eq_false_iff_ne]; exact h1, ?_⟩
    rw [Bool.or_eq_true, beq_iff_eq, beq_iff_eq] at h
    rw [beq_iff_eq]
    rcases h with h | h
    · exact absurd h.symm h1
    · exact h.symm

set_option maxRecDepth 20000 in
set_option maxHeartbeats 12800000 in
theorem rdrop_to (W H : Int) (ao : Option Addr) (n cap : Nat) (Z : Nat → Int) (hn : n ≤ 9223372036854775807) (lo : Option Addr) (m lcap : Nat) (S : Nat → Sp) (hm : m ≤ 300) (hlc : m ≤ lcap) (t : Int) (L : List Sp) (g e : Int) (h : DropIs W H n Z m S t L g e) (w : World) (hI : Ints w ao n Z) (hS : SpansAt w lo m S) :
    Calls Try.prog 18 #[lv W H (.slice ao n cap), .slice lo m lcap, .int .i64 t] w fun r w' => ∃ v, r = .returned (.tuple #[v, .int .i64 g, .int .i64 e]) ∧ w'.ownsRow w.heap.size 26 4 v L.length (encL L) ∧ Below w.heap.size w w' := by
  have HM := hid (lb_start (W := W) (H := H) (cap := cap) hI)
  have HS := hid hS
  have HI := hid hI
  have hm0 : (0 : Int) ≤ (m : Int) := by omega
  obtain ⟨i0, hi, hz0, hz1, hz2⟩ := info_parts infoS
  have HIN := hid (And.intro hi (And.intro hz0 (And.intro hz1 hz2)))
  clear hi hz0 hz1 hz2
  clear hI hS
  cases h with
  | list e h0 hv =>
    have HV := hid hv
    have g : (e != 0) = true := by simpa using h0
    have g2 : (e == 0) = false := by simpa using h0
    clear hv
    go_enter Try.func18, Try.ntmps18
    go_upto_region 1 with fail
    generalize World.alloc w _ = wm at HM ⊢
    have c0 := HM.out.c0; have c1 := HM.out.c1; have c2 := HM.out.c2; have hz := HM.out.size
    go_wp2_with (go_at_call 35; (with_reducible refine (listError_to W H ao n cap Z hn _ m lcap S hm e HV.out _ HM.out.ints (HS.out.stays HM.out.below)).mono ?_); rintro e w1 ⟨rfl, hb⟩; have HN := hid (HM.out.stays hb); clear hb c0 c1 c2 hz HM; have HM := HN; clear HN; have c0 := HM.out.c0; have c1 := HM.out.c1; have c2 := HM.out.c2; have hz := HM.out.size)
    go_ret3
    exact ⟨_, rfl, World.ownsRow_nil _ _ _ _, HM.out.below⟩
  | none hv hx =>
    have HV := hid hv
    have HX := hid hx
    clear hv hx
    go_enter Try.func18, Try.ntmps18
    go_upto_region 1 with fail
    generalize World.alloc w _ = wm at HM ⊢
    have c0 := HM.out.c0; have c1 := HM.out.c1; have c2 := HM.out.c2; have hz := HM.out.size
    go_wp2_with (go_at_call 35; (with_reducible refine (listError_to W H ao n cap Z hn _ m lcap S hm 0 HV.out _ HM.out.ints (HS.out.stays HM.out.below)).mono ?_); rintro e w1 ⟨rfl, hb⟩; have HN := hid (HM.out.stays hb); clear hb c0 c1 c2 hz HM; have HM := HN; clear HN; have c0 := HM.out.c0; have c1 := HM.out.c1; have c2 := HM.out.c2; have hz := HM.out.size)
    have HN : Hid (LB W H ao n cap Z w _) := HM
    clear c0 c1 c2 hz HM
    go_loopw [10] (fun iv wr => ∃ i : Nat, i ≤ m ∧ iv = .int .i64 i ∧ Hid (LB W H ao n cap Z w wr)) (fun iv _ => m - (intOf iv).toNat)
    case atStart => exact ⟨0, Nat.zero_le _, rfl, HN⟩
    case round =>
      obtain ⟨i, hi, rfl, hB⟩ := hrel
      clear HN
      by_cases hlt : i < m
      · obtain ⟨bl, off, rfl, _⟩ := HS.out.one (by omega)
        obtain ⟨b', off', e', hbz, q0, q1, q2, q3⟩ := (HS.out.stays hB.out.below) i hlt
        cases e'
        have hi0 : (0 : Int) ≤ (i : Int) := by omega
        have hi1 : (i : Int) < (m : Int) := by omega
        obtain ⟨g1, g2⟩ := hdP_no (HX.out i hlt)
        go_wp2_with fail
        go_roundw
        case rel => exact ⟨i + 1, by omega, by go_num, hB⟩
        case measure => simp [intOf]; omega
      · obtain rfl : i = m := by omega
        go_wp2_with fail
        go_ret3
        exact ⟨_, rfl, World.ownsRow_nil _ _ _ _, hB.out.below⟩
  | ok i1 p q hv hl1 hx hf e1 e2 =>
    have HV := hid hv
    have HX := hid hf
    have hyes := hdP_yes hx
    obtain ⟨W, H, rfl, rfl, hg, ha, hr⟩ := hv.right
    obtain ⟨hW1, hW2, hH1, hH2⟩ := hg.side
    have hrt : Rt W H Z (S i1).k p q (S i1).u := by
      obtain ⟨p', q', e1', e2', h⟩ := (hr i1 hl1).right
      obtain rfl : p' = p := by omega
      obtain rfl : q' = q := by omega
      exact h
    rw [Int.toNat_natCast]
    obtain ⟨bl, off, rfl, hbz, q0, q1, q2, q3⟩ := HS.out i1 hl1
    obtain ⟨y, hy⟩ : ∃ y, y = off + i1 * 4 := ⟨_, rfl⟩
    have hkd := kd_le hrt.kd
    have hp2 : p ≤ 1024 := by have := hrt.ha; have := mul_small hW2 hH2; omega
    have hq2 : q ≤ 1024 := by have := hrt.hb; have := mul_small hW2 hH2; omega
    have HL := hid hrt.line
    have HFIRST := hid (HS.out.cells 0 i1 (by omega))
    have HREST := hid (HS.out.cells (i1 + 1) (m - (i1 + 1)) (by omega))
    obtain ⟨k, hkk⟩ : ∃ k, k = (S i1).k := ⟨_, rfl⟩
    obtain ⟨u, hu⟩ : ∃ u, u = (S i1).u := ⟨_, rfl⟩
    rw [← hy] at q0 q1 q2 q3
    rw [e1] at q1 hyes
    rw [e2] at q2 hyes
    rw [← hkk] at q0
    rw [← hu] at q3
    rw [← hkk] at hkd ⊢
    obtain ⟨G, hG⟩ : ∃ G, G = prc k (cnt (stp W p q) p q) := ⟨_, rfl⟩
    rw [← hG]
    have HG := hid hG
    have D := hid (And.intro q0 (And.intro q1 (And.intro q2 q3)))
    have HY := hid hy
    have HYES := hid hyes
    clear hv hx hf hr hg ha hrt q0 q1 q2 q3 hG hy hkk hu e1 e2 hyes
    go_enter Try.func18, Try.ntmps18
    go_upto_region 1 with fail
    generalize World.alloc w _ = wm at HM ⊢
    have c0 := HM.out.c0; have c1 := HM.out.c1; have c2 := HM.out.c2; have hz := HM.out.size
    go_wp2_with (go_at_call 35; (with_reducible refine (listError_to W H ao n cap Z hn _ m lcap S hm 0 HV.out _ HM.out.ints (HS.out.stays HM.out.below)).mono ?_); rintro e w1 ⟨rfl, hb⟩; have HN := hid (HM.out.stays hb); clear hb c0 c1 c2 hz HM; have HM := HN; clear HN; have c0 := HM.out.c0; have c1 := HM.out.c1; have c2 := HM.out.c2; have hz := HM.out.size)
    have HN : Hid (LB W H ao n cap Z w _) := HM
    clear c0 c1 c2 hz HM
    go_loopw [10] (fun iv wr => ∃ i : Nat, i ≤ i1 ∧ iv = .int .i64 i ∧ Hid (LB W H ao n cap Z w wr)) (fun iv _ => m - (intOf iv).toNat)
    case atStart => exact ⟨0, Nat.zero_le _, rfl, HN⟩
    case round =>
      obtain ⟨i, hi, rfl, hB⟩ := hrel
      clear HN
      have hlt : i < m := by omega
      by_cases hii : i < i1
      · have HLT := hii
        clear hii
        obtain ⟨b', off', e', hbz, q0, q1, q2, q3⟩ := (HS.out.stays hB.out.below) i hlt
        cases e'
        have hi0 : (0 : Int) ≤ (i : Int) := by omega
        have hi1 : (i : Int) < (m : Int) := by omega
        obtain ⟨g1, g2⟩ := hdP_no (HX.out i HLT)
        go_wp2_with fail
        go_roundw
        case rel => exact ⟨i + 1, by omega, by go_num, hB⟩
        case measure => simp [intOf]; omega
      · obtain rfl : i = i1 := by omega
        have HB := hB
        clear hB hii
        have ey : off + i * 4 = y := HY.out.symm
        have hi0 : (0 : Int) ≤ (i : Int) := by omega
        have hi1 : (i : Int) < (m : Int) := by omega
        have x0 := (HB.out.below.cell (p := ⟨bl, y, none⟩) hbz).trans D.out.1
        have x1 := (HB.out.below.cell (p := ⟨bl, y + 1, none⟩) hbz).trans D.out.2.1
        have x2 := (HB.out.below.cell (p := ⟨bl, y + 2, none⟩) hbz).trans D.out.2.2.1
        have hil : (i : Int) ≤ (lcap : Int) := by omega
        have hbz2 : bl < wr.heap.size := by have := HB.out.below.size; omega
        have c0 := HB.out.c0
        have p0 : (0 : Int) ≤ (i : Int) + 1 := by omega
        have p1 : (i : Int) + 1 ≤ (m : Int) := by omega
        have p2 : ((i : Int) + 1).toNat = i + 1 := by omega
        have p3 : IntKind.i64.wrap ((i : Int) + 1) = (i : Int) + 1 := by rw [IntKind.wrap_i64]; omega
        rcases HYES.out with g1 | ⟨g1, g2⟩
        · go_wp2_with (at_builtin; refine wpList_append_own _ rfl _ _ 34 rfl (w.heap.size + 1) 26 i0 (.agg #[.int .i64 0, .int .i64 0, .int .i64 0, .int .i64 0]) 4 32 Try.underlying34 HIN.out.1 HIN.out.2.1 HIN.out.2.2.1 HIN.out.2.2.2 rfl (by decide) _ _ _ rfl (World.ownsRow_made _ #[] 0 (by have := HB.out.size; simp; omega) (Nat.zero_le _) rfl) ⟨bl, off, none⟩ i lcap (encL (rng S 0 i)) rfl ?k1 ?k2 ?k3 ?k4 ?k5 ?k6 ?_)
          case k1 => rw [encL_len, rng_len]
          case k2 =>
            intro j u hj
            rw [Addr.add_lit, World.cell?_alloc_past _ _ _ hbz2]
            have h1 : w.cell? ⟨bl, off + j, none⟩ = some u := by have h := HFIRST.out j u hj; rwa [show off + 0 * 4 + j = off + j by omega] at h
            exact (HB.out.below.cell (p := ⟨bl, off + j, none⟩) hbz).trans h1
          case k3 => exact encL_one
          case k4 => unfold maxLen; omega
          case k5 => omega
          case k6 => have := HB.out.size; simp; omega
          intro v' w5 hown hgrow _
          have hown' : w5.ownsRow (w.heap.size + 1) 26 4 v' i (encL (rng S 0 i)) := by simpa using hown
          obtain ⟨vo, vc, rfl⟩ := row_slice hown'
          have HR1 := hid hown'
          have hb5 : Below (w.heap.size + 1) wr w5 := ((Below.refl _ wr).alloc (by have := HB.out.size; omega) _).grown hgrow (by have := HB.out.size; simp; omega) (by intro j hj; have := HB.out.size; simp [Value.ownBlock] at hj; omega)
          have HB5 := hid (HB.out.low HI.out hb5)
          clear hown hown' hgrow hb5 x0 x1 x2 c0 hbz2
          obtain ⟨A, hA, hsrc⟩ : ∃ A : Addr, (if lcap = i + 1 then some (⟨bl, off, none⟩ : Addr) else some ⟨bl, off + (i + 1) * 4, none⟩) = some A ∧ Hid (∀ j u, (encL (rng S (i + 1) (m - (i + 1))))[j]? = some u → w5.drew.cell? (A.add j) = some u) := by
            by_cases h : lcap = i + 1
            · refine ⟨_, by rw [if_pos h], fun j u hu => ?_⟩
              have h0 : (encL (rng S (i + 1) (m - (i + 1)))).length = 0 := by rw [encL_len, rng_len]; omega
              rw [List.length_eq_zero_iff.1 h0] at hu
              simp at hu
            · refine ⟨_, by rw [if_neg h], fun j u hu => ?_⟩
              rw [Addr.add_lit]
              exact (HB5.out.below.cell (p := ⟨bl, off + (i + 1) * 4 + j, none⟩) hbz).trans (HREST.out j u hu)
          have HSRC := hsrc
          clear hsrc
          go_upto_region 9 with fail
          refine wp_region_held_drew (S := (fun wr => LB W H ao n cap Z w wr ∧ wr.cell? ⟨w.heap.size, 0, none⟩ = some (.int .i64 W) ∧ wr.cell? ⟨w.heap.size, 1, none⟩ = some (.int .i64 H) ∧ wr.cell? ⟨w.heap.size, 2, none⟩ = some (.slice ao n cap) ∧ wr.cell? ⟨bl, y, none⟩ = some (.int .i64 k) ∧ wr.cell? ⟨bl, y + 1, none⟩ = some (.int .i64 p) ∧ wr.cell? ⟨bl, y + 2, none⟩ = some (.int .i64 q) ∧ wr.cell? ⟨bl, y + 3, none⟩ = some (.int .i64 u))) (by kernel_rfl) (rd_keep hbz D.out (And.intro HB5.out trivial) ((Below.refl _ _).drew)) (fun hHeld => ?_)
          refine wpAnyH_take (i := 0) (oi := { dst := some 45, op := Op.move (Operand.tmp 11), type := 34, pos := "ref.go:214", after := #[], guard := none }) (v := ?_) rfl (by kernel_rfl) (by kernel_rfl) (by kernel_rfl) (fun _ _ _ h => h) (Or.inl ⟨by rfl, ?_⟩) (by assumption) ?_
          rotate_left
          · intro w hSw; (try dsimp only at hSw); go_simp; try (with_reducible rfl)
          try simp only [Act.put, List.setIfInBounds_toArray, List.set_cons_zero, List.set_cons_succ]
          refine wpAnyH_take (i := 1) (oi := { dst := some 46, op := Op.move (Operand.tmp 1), type := 34, pos := "ref.go:214", after := #[], guard := none }) (v := ?_) rfl (by kernel_rfl) (by kernel_rfl) (by kernel_rfl) (fun _ _ _ h => h) (Or.inl ⟨by rfl, ?_⟩) (by assumption) ?_
          rotate_left
          · intro w hSw; (try dsimp only at hSw); go_simp; try (with_reducible rfl)
          try simp only [Act.put, List.setIfInBounds_toArray, List.set_cons_zero, List.set_cons_succ]
          refine wpAnyH_take (i := 2) (oi := { dst := some 47, op := Op.move (Operand.tmp 10), type := 3, pos := "ref.go:214", after := #[], guard := none }) (v := ?_) rfl (by kernel_rfl) (by kernel_rfl) (by kernel_rfl) (fun _ _ _ h => h) (Or.inl ⟨by rfl, ?_⟩) (by assumption) ?_
          rotate_left
          · intro w hSw; (try dsimp only at hSw); go_simp; try (with_reducible rfl)
          try simp only [Act.put, List.setIfInBounds_toArray, List.set_cons_zero, List.set_cons_succ]
          refine wpAnyH_take (i := 3) (oi := { dst := some 48, op := Op.binOp BinOp.add 3 (Operand.tmp 47) (Operand.const (Value.int IntKind.i64 1)) 3, type := 3, pos := "ref.go:214", after := #[{ on := 2, ground := Ground.data }], guard := none }) (v := ?_) rfl (by kernel_rfl) (by kernel_rfl) (by kernel_rfl) (fun _ _ _ h => h) (Or.inl ⟨by rfl, ?_⟩) (by assumption) ?_
          rotate_left
          · intro w hSw; (try dsimp only at hSw); go_simp; try (with_reducible rfl)
          try simp only [Act.put, List.setIfInBounds_toArray, List.set_cons_zero, List.set_cons_succ]
          refine wpAnyH_take (i := 4) (oi := { dst := some 49, op := Op.slice 34 (Operand.tmp 46) (some (Operand.tmp 48)) none none, type := 34, pos := "ref.go:214", after := #[{ on := 1, ground := Ground.data }, { on := 3, ground := Ground.data }], guard := none }) (v := ?_) rfl (by kernel_rfl) (by kernel_rfl) (by kernel_rfl) (fun _ _ _ h => h) (Or.inl ⟨by rfl, ?_⟩) (by assumption) ?_
          rotate_left
          · intro w hSw; (try dsimp only at hSw); go_simp; try (with_reducible rfl)
          try simp only [Act.put, List.setIfInBounds_toArray, List.set_cons_zero, List.set_cons_succ]
          refine wpAnyH_take (i := 6) (oi := { dst := some 51, op := Op.load 24 (Operand.tmp 3), type := 24, pos := "ref.go:214", after := #[], guard := none }) (v := ?_) rfl (by kernel_rfl) (by kernel_rfl) (by kernel_rfl) (fun _ _ _ h => h) (Or.inl ⟨by rfl, ?_⟩) (by assumption) ?_
          rotate_left
          · intro w hSw; (try dsimp only at hSw); go_simp; try (with_reducible rfl)
          try simp only [Act.put, List.setIfInBounds_toArray, List.set_cons_zero, List.set_cons_succ]
          refine wpAnyH_take (i := 7) (oi := { dst := some 52, op := Op.move (Operand.tmp 1), type := 34, pos := "ref.go:214", after := #[], guard := none }) (v := ?_) rfl (by kernel_rfl) (by kernel_rfl) (by kernel_rfl) (fun _ _ _ h => h) (Or.inl ⟨by rfl, ?_⟩) (by assumption) ?_
          rotate_left
          · intro w hSw; (try dsimp only at hSw); go_simp; try (with_reducible rfl)
          try simp only [Act.put, List.setIfInBounds_toArray, List.set_cons_zero, List.set_cons_succ]
          refine wpAnyH_take (i := 8) (oi := { dst := some 53, op := Op.move (Operand.tmp 10), type := 3, pos := "ref.go:214", after := #[], guard := none }) (v := ?_) rfl (by kernel_rfl) (by kernel_rfl) (by kernel_rfl) (fun _ _ _ h => h) (Or.inl ⟨by rfl, ?_⟩) (by assumption) ?_
          rotate_left
          · intro w hSw; (try dsimp only at hSw); go_simp; try (with_reducible rfl)
          try simp only [Act.put, List.setIfInBounds_toArray, List.set_cons_zero, List.set_cons_succ]
          refine wpAnyH_take (i := 9) (oi := { dst := some 54, op := Op.indexAddr 34 (Operand.tmp 52) (Operand.tmp 53), type := 0, pos := "ref.go:214", after := #[{ on := 7, ground := Ground.data }, { on := 8, ground := Ground.data }], guard := none }) (v := ?_) rfl (by kernel_rfl) (by kernel_rfl) (by kernel_rfl) (fun _ _ _ h => h) (Or.inl ⟨by rfl, ?_⟩) (by assumption) ?_
          rotate_left
          · intro w hSw; (try dsimp only at hSw); go_simp; try (with_reducible rfl)
          try simp only [Act.put, List.setIfInBounds_toArray, List.set_cons_zero, List.set_cons_succ]
          refine wpAnyH_take (i := 10) (oi := { dst := some 55, op := Op.load 26 (Operand.tmp 54), type := 26, pos := "ref.go:214", after := #[{ on := 9, ground := Ground.data }], guard := none }) (v := ?_) rfl (by kernel_rfl) (by kernel_rfl) (by kernel_rfl) (fun _ _ _ h => h) (Or.inl ⟨by rfl, ?_⟩) (by assumption) ?_
          rotate_left
          · intro w hSw; (try dsimp only at hSw); go_simp; try (with_reducible rfl)
          try simp only [Act.put, List.setIfInBounds_toArray, List.set_cons_zero, List.set_cons_succ]
          refine wpAnyH_ready (rs := [5]) (by kernel_rfl) (by simp) ?_
          refine AllReadyH.cons (o := { dst := some 50, op := Op.call { callee := Callee.builtin Builtin.append, args := #[Operand.tmp 45, Operand.tmp 49], argTypes := #[34, 34] }, type := 34, pos := "ref.go:214", after := #[{ on := 0, ground := Ground.data }, { on := 4, ground := Ground.data }], guard := none }) rfl (fun K hK => ?_) AllReadyH.nil
          rw [if_pos (by simp [Region.wanted])]
          refine wp_append_own _ (.tmp 45) (.tmp 49) 34 rfl (w.heap.size + 1) 26 i0 (.agg #[.int .i64 0, .int .i64 0, .int .i64 0, .int .i64 0]) 4 32 Try.underlying34 HIN.out.1 HIN.out.2.1 HIN.out.2.2.1 HIN.out.2.2.2 rfl (by decide) (.slice vo i vc) i (encL (rng S 0 i)) (by simp [Act.eval]) (row_stays HR1.out ((Below.refl _ _).drew)) A (m - (i + 1)) (lcap - (i + 1)) (encL (rng S (i + 1) (m - (i + 1)))) (by simp [Act.eval]) (by rw [encL_len, rng_len]) HSRC.out encL_one (by unfold maxLen; omega) (by omega) (by have := HB5.out.size; show _ ≤ w5.heap.size; omega) ?_
          intro v2 w2 hown hgrow _
          have HR2 := hid hown
          refine hK.out _ _ (rd_app HI.out hbz D.out (by assumption) hgrow (fun j hj => (HR1.out.lt j hj).1)) (fun hHeld2 => ?_)
          clear hown hgrow
          clear hK K
          try simp only [Act.put, List.setIfInBounds_toArray, List.set_cons_zero, List.set_cons_succ]
          refine wpAnyH_ready (rs := [11]) (by kernel_rfl) (by simp) ?_
          refine AllReadyH.cons (o := { dst := some 56, op := Op.call { callee := Callee.value (Operand.func 33), args := #[Operand.tmp 51, Operand.tmp 55], argTypes := #[24, 26] }, type := 3, pos := "ref.go:214", after := #[{ on := 6, ground := Ground.data }, { on := 10, ground := Ground.data }, { on := 5, ground := Ground.chain }], guard := none }) rfl (fun K hK => ?_) AllReadyH.nil
          go_simp
          refine (price_any hW1 hW2 ao n cap Z k u hkd p q hp2 hq2 HL.out _ (rd_ints (by assumption))).mono ?_
          rw [← HG.out]
          rintro r' w' ⟨rfl, hb⟩
          have HR3 := hid (row_stays HR2.out hb)
          try go_wp2_with fail
          refine hK.out _ _ (by first | exact rd_keep hbz D.out (by assumption) hb | assumption) (fun hHeld3 => ?_)
          clear hK K
          try simp only [Act.put, List.setIfInBounds_toArray, List.set_cons_zero, List.set_cons_succ]
          refine wpAnyH_take (i := 13) (oi := { dst := some 6, op := Op.assign (Operand.tmp 50), type := 34, pos := "ref.go:214", after := #[{ on := 5, ground := Ground.data }, { on := 11, ground := Ground.chain }, { on := 0, ground := Ground.phase }, { on := 1, ground := Ground.phase }, { on := 2, ground := Ground.phase }, { on := 3, ground := Ground.phase }, { on := 4, ground := Ground.phase }, { on := 5, ground := Ground.phase }, { on := 6, ground := Ground.textOnly Departure.lateStores }, { on := 7, ground := Ground.textOnly Departure.lateStores }, { on := 8, ground := Ground.textOnly Departure.lateStores }, { on := 9, ground := Ground.textOnly Departure.lateStores }, { on := 10, ground := Ground.textOnly Departure.lateStores }, { on := 11, ground := Ground.textOnly Departure.lateStoresUnsure }, { on := 12, ground := Ground.textOnly Departure.lateStores }], guard := none }) (v := ?_) rfl (by kernel_rfl) (by kernel_rfl) (by kernel_rfl) (fun _ _ _ h => h) (Or.inl ⟨by rfl, ?_⟩) (by assumption) ?_
          rotate_left
          · intro w hSw; (try dsimp only at hSw); go_simp; try (with_reducible rfl)
          try simp only [Act.put, List.setIfInBounds_toArray, List.set_cons_zero, List.set_cons_succ]
          refine wpAnyH_ready (rs := [12]) (by kernel_rfl) (by simp) ?_
          refine AllReadyH.cons (o := { dst := some 57, op := Op.binOp BinOp.quo 3 (Operand.tmp 56) (Operand.const (Value.int IntKind.i64 4)) 3, type := 3, pos := "ref.go:214", after := #[{ on := 11, ground := Ground.data }, { on := 13, ground := Ground.gcOnly Departure.lateStores }], guard := none }) rfl (fun K hK => ?_) AllReadyH.nil
          go_simp
          skip
          try go_wp2_with fail
          refine hK.out _ _ (by first | exact rd_keep hbz D.out (by assumption) hb | assumption) (fun hHeld4 => ?_)
          clear hK K
          try simp only [Act.put, List.setIfInBounds_toArray, List.set_cons_zero, List.set_cons_succ]
          refine wpAnyH_take (i := 14) (oi := { dst := some 7, op := Op.assign (Operand.tmp 57), type := 3, pos := "ref.go:214", after := #[{ on := 12, ground := Ground.data }, { on := 13, ground := Ground.chain }, { on := 0, ground := Ground.phase }, { on := 1, ground := Ground.phase }, { on := 2, ground := Ground.phase }, { on := 3, ground := Ground.phase }, { on := 4, ground := Ground.phase }, { on := 5, ground := Ground.phase }, { on := 6, ground := Ground.phase }, { on := 7, ground := Ground.phase }, { on := 8, ground := Ground.phase }, { on := 9, ground := Ground.phase }, { on := 10, ground := Ground.phase }, { on := 11, ground := Ground.phase }, { on := 12, ground := Ground.phase }, { on := 13, ground := Ground.phase }], guard := none }) (v := ?_) rfl (by kernel_rfl) (by kernel_rfl) (by kernel_rfl) (fun _ _ _ h => h) (Or.inl ⟨by rfl, ?_⟩) (by assumption) ?_
          rotate_left
          · intro w hSw; (try dsimp only at hSw); go_simp; try (with_reducible rfl)
          try simp only [Act.put, List.setIfInBounds_toArray, List.set_cons_zero, List.set_cons_succ]
          refine wpAnyH_take (i := 15) (oi := { dst := some 8, op := Op.assign (Operand.const (Value.int IntKind.i64 0)), type := 29, pos := "ref.go:214", after := #[{ on := 14, ground := Ground.chain }, { on := 0, ground := Ground.phase }, { on := 1, ground := Ground.phase }, { on := 2, ground := Ground.phase }, { on := 3, ground := Ground.phase }, { on := 4, ground := Ground.phase }, { on := 5, ground := Ground.phase }, { on := 6, ground := Ground.phase }, { on := 7, ground := Ground.phase }, { on := 8, ground := Ground.phase }, { on := 9, ground := Ground.phase }, { on := 10, ground := Ground.phase }, { on := 11, ground := Ground.phase }, { on := 12, ground := Ground.phase }, { on := 13, ground := Ground.phase }, { on := 14, ground := Ground.phase }], guard := none }) (v := ?_) rfl (by kernel_rfl) (by kernel_rfl) (by kernel_rfl) (fun _ _ _ h => h) (Or.inl ⟨by rfl, ?_⟩) (by assumption) ?_
          rotate_left
          · intro w hSw; (try dsimp only at hSw); go_simp; try (with_reducible rfl)
          try simp only [Act.put, List.setIfInBounds_toArray, List.set_cons_zero, List.set_cons_succ]
          refine wpAnyH_done (by kernel_rfl) ?_ _
          have HZ := hid (rd_of (by assumption))
          go_wp2_with fail
          go_ret3
          exact ⟨_, rfl, by rw [List.length_append, rng_len, rng_len, encL_app]; exact row_mono HR3.out (by omega), HZ.out.below⟩
        · go_wp2_with (at_builtin; refine wpList_append_own _ rfl _ _ 34 rfl (w.heap.size + 1) 26 i0 (.agg #[.int .i64 0, .int .i64 0, .int .i64 0, .int .i64 0]) 4 32 Try.underlying34 HIN.out.1 HIN.out.2.1 HIN.out.2.2.1 HIN.out.2.2.2 rfl (by decide) _ _ _ rfl (World.ownsRow_made _ #[] 0 (by have := HB.out.size; simp; omega) (Nat.zero_le _) rfl) ⟨bl, off, none⟩ i lcap (encL (rng S 0 i)) rfl ?k1 ?k2 ?k3 ?k4 ?k5 ?k6 ?_)
          case k1 => rw [encL_len, rng_len]
          case k2 =>
            intro j u hj
            rw [Addr.add_lit, World.cell?_alloc_past _ _ _ hbz2]
            have h1 : w.cell? ⟨bl, off + j, none⟩ = some u := by have h := HFIRST.out j u hj; rwa [show off + 0 * 4 + j = off + j by omega] at h
            exact (HB.out.below.cell (p := ⟨bl, off + j, none⟩) hbz).trans h1
          case k3 => exact encL_one
          case k4 => unfold maxLen; omega
          case k5 => omega
          case k6 => have := HB.out.size; simp; omega
          intro v' w5 hown hgrow _
          have hown' : w5.ownsRow (w.heap.size + 1) 26 4 v' i (encL (rng S 0 i)) := by simpa using hown
          obtain ⟨vo, vc, rfl⟩ := row_slice hown'
          have HR1 := hid hown'
          have hb5 : Below (w.heap.size + 1) wr w5 := ((Below.refl _ wr).alloc (by have := HB.out.size; omega) _).grown hgrow (by have := HB.out.size; simp; omega) (by intro j hj; have := HB.out.size; simp [Value.ownBlock] at hj; omega)
          have HB5 := hid (HB.out.low HI.out hb5)
          clear hown hown' hgrow hb5 x0 x1 x2 c0 hbz2
          obtain ⟨A, hA, hsrc⟩ : ∃ A : Addr, (if lcap = i + 1 then some (⟨bl, off, none⟩ : Addr) else some ⟨bl, off + (i + 1) * 4, none⟩) = some A ∧ Hid (∀ j u, (encL (rng S (i + 1) (m - (i + 1))))[j]? = some u → w5.drew.cell? (A.add j) = some u) := by
            by_cases h : lcap = i + 1
            · refine ⟨_, by rw [if_pos h], fun j u hu => ?_⟩
              have h0 : (encL (rng S (i + 1) (m - (i + 1)))).length = 0 := by rw [encL_len, rng_len]; omega
              rw [List.length_eq_zero_iff.1 h0] at hu
              simp at hu
            · refine ⟨_, by rw [if_neg h], fun j u hu => ?_⟩
              rw [Addr.add_lit]
              exact (HB5.out.below.cell (p := ⟨bl, off + (i + 1) * 4 + j, none⟩) hbz).trans (HREST.out j u hu)
          have HSRC := hsrc
          clear hsrc
          go_upto_region 9 with fail
          refine wp_region_held_drew (S := (fun wr => LB W H ao n cap Z w wr ∧ wr.cell? ⟨w.heap.size, 0, none⟩ = some (.int .i64 W) ∧ wr.cell? ⟨w.heap.size, 1, none⟩ = some (.int .i64 H) ∧ wr.cell? ⟨w.heap.size, 2, none⟩ = some (.slice ao n cap) ∧ wr.cell? ⟨bl, y, none⟩ = some (.int .i64 k) ∧ wr.cell? ⟨bl, y + 1, none⟩ = some (.int .i64 p) ∧ wr.cell? ⟨bl, y + 2, none⟩ = some (.int .i64 q) ∧ wr.cell? ⟨bl, y + 3, none⟩ = some (.int .i64 u))) (by kernel_rfl) (rd_keep hbz D.out (And.intro HB5.out trivial) ((Below.refl _ _).drew)) (fun hHeld => ?_)
          refine wpAnyH_take (i := 0) (oi := { dst := some 45, op := Op.move (Operand.tmp 11), type := 34, pos := "ref.go:214", after := #[], guard := none }) (v := ?_) rfl (by kernel_rfl) (by kernel_rfl) (by kernel_rfl) (fun _ _ _ h => h) (Or.inl ⟨by rfl, ?_⟩) (by assumption) ?_
          rotate_left
          · intro w hSw; (try dsimp only at hSw); go_simp; try (with_reducible rfl)
          try simp only [Act.put, List.setIfInBounds_toArray, List.set_cons_zero, List.set_cons_succ]
          refine wpAnyH_take (i := 1) (oi := { dst := some 46, op := Op.move (Operand.tmp 1), type := 34, pos := "ref.go:214", after := #[], guard := none }) (v := ?_) rfl (by kernel_rfl) (by kernel_rfl) (by kernel_rfl) (fun _ _ _ h => h) (Or.inl ⟨by rfl, ?_⟩) (by assumption) ?_
          rotate_left
          · intro w hSw; (try dsimp only at hSw); go_simp; try (with_reducible rfl)
          try simp only [Act.put, List.setIfInBounds_toArray, List.set_cons_zero, List.set_cons_succ]
          refine wpAnyH_take (i := 2) (oi := { dst := some 47, op := Op.move (Operand.tmp 10), type := 3, pos := "ref.go:214", after := #[], guard := none }) (v := ?_) rfl (by kernel_rfl) (by kernel_rfl) (by kernel_rfl) (fun _ _ _ h => h) (Or.inl ⟨by rfl, ?_⟩) (by assumption) ?_
          rotate_left
          · intro w hSw; (try dsimp only at hSw); go_simp; try (with_reducible rfl)
          try simp only [Act.put, List.setIfInBounds_toArray, List.set_cons_zero, List.set_cons_succ]
          refine wpAnyH_take (i := 3) (oi := { dst := some 48, op := Op.binOp BinOp.add 3 (Operand.tmp 47) (Operand.const (Value.int IntKind.i64 1)) 3, type := 3, pos := "ref.go:214", after := #[{ on := 2, ground := Ground.data }], guard := none }) (v := ?_) rfl (by kernel_rfl) (by kernel_rfl) (by kernel_rfl) (fun _ _ _ h => h) (Or.inl ⟨by rfl, ?_⟩) (by assumption) ?_
          rotate_left
          · intro w hSw; (try dsimp only at hSw); go_simp; try (with_reducible rfl)
          try simp only [Act.put, List.setIfInBounds_toArray, List.set_cons_zero, List.set_cons_succ]
          refine wpAnyH_take (i := 4) (oi := { dst := some 49, op := Op.slice 34 (Operand.tmp 46) (some (Operand.tmp 48)) none none, type := 34, pos := "ref.go:214", after := #[{ on := 1, ground := Ground.data }, { on := 3, ground := Ground.data }], guard := none }) (v := ?_) rfl (by kernel_rfl) (by kernel_rfl) (by kernel_rfl) (fun _ _ _ h => h) (Or.inl ⟨by rfl, ?_⟩) (by assumption) ?_
          rotate_left
          · intro w hSw; (try dsimp only at hSw); go_simp; try (with_reducible rfl)
          try simp only [Act.put, List.setIfInBounds_toArray, List.set_cons_zero, List.set_cons_succ]
          refine wpAnyH_take (i := 6) (oi := { dst := some 51, op := Op.load 24 (Operand.tmp 3), type := 24, pos := "ref.go:214", after := #[], guard := none }) (v := ?_) rfl (by kernel_rfl) (by kernel_rfl) (by kernel_rfl) (fun _ _ _ h => h) (Or.inl ⟨by rfl, ?_⟩) (by assumption) ?_
          rotate_left
          · intro w hSw; (try dsimp only at hSw); go_simp; try (with_reducible rfl)
          try simp only [Act.put, List.setIfInBounds_toArray, List.set_cons_zero, List.set_cons_succ]
          refine wpAnyH_take (i := 7) (oi := { dst := some 52, op := Op.move (Operand.tmp 1), type := 34, pos := "ref.go:214", after := #[], guard := none }) (v := ?_) rfl (by kernel_rfl) (by kernel_rfl) (by kernel_rfl) (fun _ _ _ h => h) (Or.inl ⟨by rfl, ?_⟩) (by assumption) ?_
          rotate_left
          · intro w hSw; (try dsimp only at hSw); go_simp; try (with_reducible rfl)
          try simp only [Act.put, List.setIfInBounds_toArray, List.set_cons_zero, List.set_cons_succ]
          refine wpAnyH_take (i := 8) (oi := { dst := some 53, op := Op.move (Operand.tmp 10), type := 3, pos := "ref.go:214", after := #[], guard := none }) (v := ?_) rfl (by kernel_rfl) (by kernel_rfl) (by kernel_rfl) (fun _ _ _ h => h) (Or.inl ⟨by rfl, ?_⟩) (by assumption) ?_
          rotate_left
          · intro w hSw; (try dsimp only at hSw); go_simp; try (with_reducible rfl)
          try simp only [Act.put, List.setIfInBounds_toArray, List.set_cons_zero, List.set_cons_succ]
          refine wpAnyH_take (i := 9) (oi := { dst := some 54, op := Op.indexAddr 34 (Operand.tmp 52) (Operand.tmp 53), type := 0, pos := "ref.go:214", after := #[{ on := 7, ground := Ground.data }, { on := 8, ground := Ground.data }], guard := none }) (v := ?_) rfl (by kernel_rfl) (by kernel_rfl) (by kernel_rfl) (fun _ _ _ h => h) (Or.inl ⟨by rfl, ?_⟩) (by assumption) ?_
          rotate_left
          · intro w hSw; (try dsimp only at hSw); go_simp; try (with_reducible rfl)
          try simp only [Act.put, List.setIfInBounds_toArray, List.set_cons_zero, List.set_cons_succ]
          refine wpAnyH_take (i := 10) (oi := { dst := some 55, op := Op.load 26 (Operand.tmp 54), type := 26, pos := "ref.go:214", after := #[{ on := 9, ground := Ground.data }], guard := none }) (v := ?_) rfl (by kernel_rfl) (by kernel_rfl) (by kernel_rfl) (fun _ _ _ h => h) (Or.inl ⟨by rfl, ?_⟩) (by assumption) ?_
          rotate_left
          · intro w hSw; (try dsimp only at hSw); go_simp; try (with_reducible rfl)
          try simp only [Act.put, List.setIfInBounds_toArray, List.set_cons_zero, List.set_cons_succ]
          refine wpAnyH_ready (rs := [5]) (by kernel_rfl) (by simp) ?_
          refine AllReadyH.cons (o := { dst := some 50, op := Op.call { callee := Callee.builtin Builtin.append, args := #[Operand.tmp 45, Operand.tmp 49], argTypes := #[34, 34] }, type := 34, pos := "ref.go:214", after := #[{ on := 0, ground := Ground.data }, { on := 4, ground := Ground.data }], guard := none }) rfl (fun K hK => ?_) AllReadyH.nil
          rw [if_pos (by simp [Region.wanted])]
          refine wp_append_own _ (.tmp 45) (.tmp 49) 34 rfl (w.heap.size + 1) 26 i0 (.agg #[.int .i64 0, .int .i64 0, .int .i64 0, .int .i64 0]) 4 32 Try.underlying34 HIN.out.1 HIN.out.2.1 HIN.out.2.2.1 HIN.out.2.2.2 rfl (by decide) (.slice vo i vc) i (encL (rng S 0 i)) (by simp [Act.eval]) (row_stays HR1.out ((Below.refl _ _).drew)) A (m - (i + 1)) (lcap - (i + 1)) (encL (rng S (i + 1) (m - (i + 1)))) (by simp [Act.eval]) (by rw [encL_len, rng_len]) HSRC.out encL_one (by unfold maxLen; omega) (by omega) (by have := HB5.out.size; show _ ≤ w5.heap.size; omega) ?_
          intro v2 w2 hown hgrow _
          have HR2 := hid hown
          refine hK.out _ _ (rd_app HI.out hbz D.out (by assumption) hgrow (fun j hj => (HR1.out.lt j hj).1)) (fun hHeld2 => ?_)
          clear hown hgrow
          clear hK K
          try simp only [Act.put, List.setIfInBounds_toArray, List.set_cons_zero, List.set_cons_succ]
          refine wpAnyH_ready (rs := [11]) (by kernel_rfl) (by simp) ?_
          refine AllReadyH.cons (o := { dst := some 56, op := Op.call { callee := Callee.value (Operand.func 33), args := #[Operand.tmp 51, Operand.tmp 55], argTypes := #[24, 26] }, type := 3, pos := "ref.go:214", after := #[{ on := 6, ground := Ground.data }, { on := 10, ground := Ground.data }, { on := 5, ground := Ground.chain }], guard := none }) rfl (fun K hK => ?_) AllReadyH.nil
          go_simp
          refine (price_any hW1 hW2 ao n cap Z k u hkd p q hp2 hq2 HL.out _ (rd_ints (by assumption))).mono ?_
          rw [← HG.out]
          rintro r' w' ⟨rfl, hb⟩
          have HR3 := hid (row_stays HR2.out hb)
          try go_wp2_with fail
          refine hK.out _ _ (by first | exact rd_keep hbz D.out (by assumption) hb | assumption) (fun hHeld3 => ?_)
          clear hK K
          try simp only [Act.put, List.setIfInBounds_toArray, List.set_cons_zero, List.set_cons_succ]
          refine wpAnyH_take (i := 13) (oi := { dst := some 6, op := Op.assign (Operand.tmp 50), type := 34, pos := "ref.go:214", after := #[{ on := 5, ground := Ground.data }, { on := 11, ground := Ground.chain }, { on := 0, ground := Ground.phase }, { on := 1, ground := Ground.phase }, { on := 2, ground := Ground.phase }, { on := 3, ground := Ground.phase }, { on := 4, ground := Ground.phase }, { on := 5, ground := Ground.phase }, { on := 6, ground := Ground.textOnly Departure.lateStores }, { on := 7, ground := Ground.textOnly Departure.lateStores }, { on := 8, ground := Ground.textOnly Departure.lateStores }, { on := 9, ground := Ground.textOnly Departure.lateStores }, { on := 10, ground := Ground.textOnly Departure.lateStores }, { on := 11, ground := Ground.textOnly Departure.lateStoresUnsure }, { on := 12, ground := Ground.textOnly Departure.lateStores }], guard := none }) (v := ?_) rfl (by kernel_rfl) (by kernel_rfl) (by kernel_rfl) (fun _ _ _ h => h) (Or.inl ⟨by rfl, ?_⟩) (by assumption) ?_
          rotate_left
          · intro w hSw; (try dsimp only at hSw); go_simp; try (with_reducible rfl)
          try simp only [Act.put, List.setIfInBounds_toArray, List.set_cons_zero, List.set_cons_succ]
          refine wpAnyH_ready (rs := [12]) (by kernel_rfl) (by simp) ?_
          refine AllReadyH.cons (o := { dst := some 57, op := Op.binOp BinOp.quo 3 (Operand.tmp 56) (Operand.const (Value.int IntKind.i64 4)) 3, type := 3, pos := "ref.go:214", after := #[{ on := 11, ground := Ground.data }, { on := 13, ground := Ground.gcOnly Departure.lateStores }], guard := none }) rfl (fun K hK => ?_) AllReadyH.nil
          go_simp
          skip
          try go_wp2_with fail
          refine hK.out _ _ (by first | exact rd_keep hbz D.out (by assumption) hb | assumption) (fun hHeld4 => ?_)
          clear hK K
          try simp only [Act.put, List.setIfInBounds_toArray, List.set_cons_zero, List.set_cons_succ]
          refine wpAnyH_take (i := 14) (oi := { dst := some 7, op := Op.assign (Operand.tmp 57), type := 3, pos := "ref.go:214", after := #[{ on := 12, ground := Ground.data }, { on := 13, ground := Ground.chain }, { on := 0, ground := Ground.phase }, { on := 1, ground := Ground.phase }, { on := 2, ground := Ground.phase }, { on := 3, ground := Ground.phase }, { on := 4, ground := Ground.phase }, { on := 5, ground := Ground.phase }, { on := 6, ground := Ground.phase }, { on := 7, ground := Ground.phase }, { on := 8, ground := Ground.phase }, { on := 9, ground := Ground.phase }, { on := 10, ground := Ground.phase }, { on := 11, ground := Ground.phase }, { on := 12, ground := Ground.phase }, { on := 13, ground := Ground.phase }], guard := none }) (v := ?_) rfl (by kernel_rfl) (by kernel_rfl) (by kernel_rfl) (fun _ _ _ h => h) (Or.inl ⟨by rfl, ?_⟩) (by assumption) ?_
          rotate_left
          · intro w hSw; (try dsimp only at hSw); go_simp; try (with_reducible rfl)
          try simp only [Act.put, List.setIfInBounds_toArray, List.set_cons_zero, List.set_cons_succ]
          refine wpAnyH_take (i := 15) (oi := { dst := some 8, op := Op.assign (Operand.const (Value.int IntKind.i64 0)), type := 29, pos := "ref.go:214", after := #[{ on := 14, ground := Ground.chain }, { on := 0, ground := Ground.phase }, { on := 1, ground := Ground.phase }, { on := 2, ground := Ground.phase }, { on := 3, ground := Ground.phase }, { on := 4, ground := Ground.phase }, { on := 5, ground := Ground.phase }, { on := 6, ground := Ground.phase }, { on := 7, ground := Ground.phase }, { on := 8, ground := Ground.phase }, { on := 9, ground := Ground.phase }, { on := 10, ground := Ground.phase }, { on := 11, ground := Ground.phase }, { on := 12, ground := Ground.phase }, { on := 13, ground := Ground.phase }, { on := 14, ground := Ground.phase }], guard := none }) (v := ?_) rfl (by kernel_rfl) (by kernel_rfl) (by kernel_rfl) (fun _ _ _ h => h) (Or.inl ⟨by rfl, ?_⟩) (by assumption) ?_
          rotate_left
          · intro w hSw; (try dsimp only at hSw); go_simp; try (with_reducible rfl)
          try simp only [Act.put, List.setIfInBounds_toArray, List.set_cons_zero, List.set_cons_succ]
          refine wpAnyH_done (by kernel_rfl) ?_ _
          have HZ := hid (rd_of (by assumption))
          go_wp2_with fail
          go_ret3
          exact ⟨_, rfl, by rw [List.length_append, rng_len, rng_len, encL_app]; exact row_mono HR3.out (by omega), HZ.out.below⟩
end Go.Proofs.Ytpohhcmkkjcelaa
