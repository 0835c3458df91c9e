/-
  The walks of spanError, Validate and Cost of the reference.
-/
import Derived.Test.YtpohhcmkkjcelaaSRHigh
namespace Go.Proofs.Ytpohhcmkkjcelaa
open Go.RowKit

/-- The memory of spanError: its boxes, the list of the tiles between. -/
structure EM (W H : Int) (ao : Option Addr) (n cap : Nat) (Z : Nat → Int) (k : Int) (a b : Nat) (u : Int) (d c : Nat) (v : Value) (w wr : World) : Prop where
  mb : MB W H ao n cap Z k a b u w wr
  row : wr.ownsRow w.heap.size 3 1 v c (vals c (tls a d))
theorem EM.stays {W H : Int} {ao : Option Addr} {n cap : Nat} {Z : Nat → Int} {k : Int} {a b : Nat} {u : Int} {d c : Nat} {v : Value} {w wr w' : World} (h : EM W H ao n cap Z k a b u d c v w wr) (hb : Below wr.heap.size wr w') : EM W H ao n cap Z k a b u d c v w w' :=
  ⟨h.mb.stays hb, row_stays h.row hb⟩

set_option maxRecDepth 20000 in
set_option maxHeartbeats 6400000 in
theorem rerr_early {W H : Nat} (ao : Option Addr) (n cap : Nat) (Z : Nat → Int) (hg : Good W H n Z) (k a b u e : Int) (h : SErr W H Z k a b u e) (he : e = 1 ∨ e = 2 ∨ e = 8) (w : World) (hI : Ints w ao n Z) :
    Calls Try.prog 30 #[lv W H (.slice ao n cap), sv k a b u] w fun r w' => r = .returned (.int .i64 e) ∧ Below w.heap.size w w' := by
  obtain ⟨hW1, hW2, hH1, hH2⟩ := hg.side
  have hms := mul_small hW2 hH2
  obtain ⟨m, hm⟩ : ∃ m, m = W * H := ⟨_, rfl⟩
  have em : (W : Int) * (H : Int) = (m : Int) := by rw [hm]; simp
  have HM := hid (mb_start (W := W) (H := H) (cap := cap) (k := k) (a := a) (b := b) (u := u) hI)
  clear hI hg
  cases h with
  | arg h1 =>
    have h2 : k < 0 ∨ 2 ≤ k ∨ ((0 ≤ k ∧ k < 2) ∧ u < 0) ∨ ((0 ≤ k ∧ k < 2) ∧ 2 ≤ u) := by unfold Kd at h1; omega
    clear h1 hm
    rcases h2 with h2 | h2 | ⟨⟨h3, h4⟩, h2⟩ | ⟨⟨h3, h4⟩, h2⟩
    all_goals
      go_enter Try.func30, Try.ntmps30
      go_upto_region 1 with fail
      generalize World.alloc (World.alloc w _) _ = wm at HM ⊢
      have c0 := HM.out.c0; have c1 := HM.out.c1; have c2 := HM.out.c2; have d0 := HM.out.d0; have d1 := HM.out.d1; have d2 := HM.out.d2; have d3 := HM.out.d3; have hz := HM.out.size
      go_wp2_with fail
      go_ret
      exact ⟨rfl, HM.out.below⟩
  | none h1 h2 =>
    obtain ⟨k1, k2, u1, u2⟩ := h1
    unfold Tl at h2
    rw [← hm] at h2
    have h3 : a < 0 ∨ (m : Int) ≤ a ∨ ((0 ≤ a ∧ a < (m : Int)) ∧ b < 0) ∨ ((0 ≤ a ∧ a < (m : Int)) ∧ (m : Int) ≤ b) := by omega
    rw [← hm] at hms
    clear h2 hm
    rcases h3 with h2 | h2 | ⟨⟨h3, h4⟩, h2⟩ | ⟨⟨h3, h4⟩, h2⟩
    all_goals
      go_enter Try.func30, Try.ntmps30
      go_upto_region 1 with fail
      generalize World.alloc (World.alloc w _) _ = wm at HM ⊢
      have c0 := HM.out.c0; have c1 := HM.out.c1; have c2 := HM.out.c2; have d0 := HM.out.d0; have d1 := HM.out.d1; have d2 := HM.out.d2; have d3 := HM.out.d3; have hz := HM.out.size
      go_wp2_with fail
      go_ret
      exact ⟨rfl, HM.out.below⟩
  | fit p q h1 e1 e2 hp hq h2 =>
    obtain ⟨k1, k2, u1, u2⟩ := h1
    subst e1 e2
    have hp2 : p ≤ 1024 := by omega
    have hq2 : q ≤ 1024 := by omega
    have hpm : (p : Int) < (m : Int) := by omega
    have hqm : (q : Int) < (m : Int) := by omega
    rw [← hm] at hms
    clear hm hp hq
    by_cases h3 : p < q
    · have HGN : Hid (0 = gapN W p q) := hid (gap_no fun h => h2 ⟨h3, h⟩).symm
      clear h2
      go_enter Try.func30, Try.ntmps30
      go_upto_region 1 with fail
      generalize World.alloc (World.alloc w _) _ = wm at HM ⊢
      have c0 := HM.out.c0; have c1 := HM.out.c1; have c2 := HM.out.c2; have d0 := HM.out.d0; have d1 := HM.out.d1; have d2 := HM.out.d2; have d3 := HM.out.d3; have hz := HM.out.size
      go_wp2_with (first | (go_at_call 46; (with_reducible refine (gap_any W H hW1 hW2 _ k u p q hp2 hq2 0 HGN.out _).mono ?_); rintro e w1 ⟨rfl, hb⟩; have HN := hid (HM.out.stays hb); clear hb c0 c1 c2 d0 d1 d2 d3 hz HM; have HM := HN; clear HN; have c0 := HM.out.c0; have c1 := HM.out.c1; have c2 := HM.out.c2; have d0 := HM.out.d0; have d1 := HM.out.d1; have d2 := HM.out.d2; have d3 := HM.out.d3; have hz := HM.out.size))
      go_ret
      exact ⟨rfl, HM.out.below⟩
    · clear h2
      go_enter Try.func30, Try.ntmps30
      go_upto_region 1 with fail
      generalize World.alloc (World.alloc w _) _ = wm at HM ⊢
      have c0 := HM.out.c0; have c1 := HM.out.c1; have c2 := HM.out.c2; have d0 := HM.out.d0; have d1 := HM.out.d1; have d2 := HM.out.d2; have d3 := HM.out.d3; have hz := HM.out.size
      go_wp2_with fail
      go_ret
      exact ⟨rfl, HM.out.below⟩
  | limit => omega
  | slope => omega
  | ok => omega

set_option maxRecDepth 20000 in
set_option maxHeartbeats 6400000 in
theorem rerr_limit {W H : Nat} (ao : Option Addr) (n cap : Nat) (Z : Nat → Int) (hg : Good W H n Z) (k u : Int) (hk : Kd k u) (p q : Nat) (hp : p < W * H) (hq : q < W * H) (hl : Line W p q) (hn : ¬ (1 ≤ cnt (stp W p q) p q ∧ cnt (stp W p q) p q ≤ 10)) (w : World) (hI : Ints w ao n Z) :
    Calls Try.prog 30 #[lv W H (.slice ao n cap), sv k p q u] w fun r w' => r = .returned (.int .i64 10) ∧ Below w.heap.size w w' := by
  obtain ⟨hW1, hW2, hH1, hH2⟩ := hg.side
  have hms := mul_small hW2 hH2
  obtain ⟨m, hm⟩ : ∃ m, m = W * H := ⟨_, rfl⟩
  have em : (W : Int) * (H : Int) = (m : Int) := by rw [hm]; simp
  have HM := hid (mb_start (W := W) (H := H) (cap := cap) (k := k) (a := p) (b := q) (u := u) hI)
  have HI := hid hI
  have HG := hid hg
  have HP := hid hp
  have HQ := hid hq
  have hp2 : p ≤ 1024 := by omega
  have hq2 : q ≤ 1024 := by omega
  have hpm : (p : Int) < (m : Int) := by omega
  have hqm : (q : Int) < (m : Int) := by omega
  have HL := hid hl
  have hlt := hl.1
  obtain ⟨k1, k2, u1, u2⟩ := hk
  have hsp := stp_pos (W := W) (a := p) (b := q) hW1
  obtain ⟨d, hd⟩ : ∃ d, d = stp W p q := ⟨_, rfl⟩
  obtain ⟨c, hc⟩ : ∃ c, c = cnt d p q := ⟨_, rfl⟩
  have HD := hid hd
  have HC := hid hc
  have HGN : Hid (d = gapN W p q) := hid (by rw [gap_stp hl.2]; exact hd)
  rw [← hd] at hsp hn
  rw [← hc] at hn
  obtain ⟨hsp1, hsp2⟩ := hsp
  have hd0 : ((d : Int) == 0) = false := by rw [beq_eq_false_iff_ne]; omega
  rw [← hm] at hms
  clear hm hp hq hl hd hc hI hg
  have hn2 : ((c : Int) == 0) = true ∨ ((0 < c ∧ ((c : Int) == 0) = false) ∧ 10 < c) := by
    rcases Nat.eq_zero_or_pos c with h | h
    · exact .inl (by rw [h]; rfl)
    · exact .inr ⟨⟨h, by rw [beq_eq_false_iff_ne]; omega⟩, by omega⟩
  clear hn
  rcases hn2 with hn2 | ⟨⟨hn2, hn4⟩, hn3⟩
  all_goals
    go_enter Try.func30, Try.ntmps30
    go_upto_region 1 with fail
    generalize World.alloc (World.alloc w _) _ = wm at HM ⊢
    have c0 := HM.out.c0; have c1 := HM.out.c1; have c2 := HM.out.c2; have d0 := HM.out.d0; have d1 := HM.out.d1; have d2 := HM.out.d2; have d3 := HM.out.d3; have hz := HM.out.size
    go_wp2_with (first | (go_at_call 46; (with_reducible refine (gap_any W H hW1 hW2 _ k u p q hp2 hq2 d HGN.out _).mono ?_); rintro e w1 ⟨rfl, hb⟩; have HN := hid (HM.out.stays hb); clear hb c0 c1 c2 d0 d1 d2 d3 hz HM; have HM := HN; clear HN; have c0 := HM.out.c0; have c1 := HM.out.c1; have c2 := HM.out.c2; have d0 := HM.out.d0; have d1 := HM.out.d1; have d2 := HM.out.d2; have d3 := HM.out.d3; have hz := HM.out.size) | (go_at_call 43; (with_reducible refine (between_to hW1 hW2 ao n cap Z k u p q hp2 hq2 HL.out d c HD.out HC.out _ HM.out.ints).mono ?_); rintro e w1 ⟨v, rfl, hrow, hb⟩; obtain ⟨vo, vc, rfl⟩ := row_slice hrow; have HN := hid (EM.mk (HM.out.stays hb) (row_mono hrow HM.out.below.size)); clear hb hrow c0 c1 c2 d0 d1 d2 d3 hz HM; have HM := HN; clear HN; have c0 := HM.out.mb.c0; have c1 := HM.out.mb.c1; have c2 := HM.out.mb.c2; have d0 := HM.out.mb.d0; have d1 := HM.out.mb.d1; have d2 := HM.out.mb.d2; have d3 := HM.out.mb.d3; have hz := HM.out.mb.size))
    go_ret
    exact ⟨rfl, HM.out.mb.below⟩

theorem em_all {W H : Int} {ao : Option Addr} {n cap : Nat} {Z : Nat → Int} {k : Int} {p q : Nat} {u : Int} {d c vg vc i : Nat} {t : Int} {w wr : World} {P : Prop} (hi : i < c ∧ tl p d i = t) (h : EM W H ao n cap Z k p q u d c (.slice (some ⟨vg, 0, none⟩) c vc) w wr ∧ P) :
    EM W H ao n cap Z k p q u d c (.slice (some ⟨vg, 0, none⟩) c vc) w wr ∧ wr.cell? ⟨w.heap.size, 0, none⟩ = some (.int .i64 W) ∧ wr.cell? ⟨w.heap.size, 1, none⟩ = some (.int .i64 H) ∧ wr.cell? ⟨w.heap.size, 2, none⟩ = some (.slice ao n cap) ∧ wr.cell? ⟨vg, i, none⟩ = some (.int .i64 t) := by
  have c4 := (h.1.row.cellAt i (by have := hi.1; omega)).trans (vals_get (tls p d) hi.1)
  rw [show tls p d i = .int .i64 (tl p d i) from rfl, hi.2] at c4
  exact ⟨h.1, h.1.mb.c0, h.1.mb.c1, h.1.mb.c2, c4⟩
theorem em_keep {W H : Int} {ao : Option Addr} {n cap : Nat} {Z : Nat → Int} {k : Int} {p q : Nat} {u : Int} {d c vg vc i : Nat} {t : Int} {w wr w' : World} {P : Prop} (hi : i < c ∧ tl p d i = t) (h : EM W H ao n cap Z k p q u d c (.slice (some ⟨vg, 0, none⟩) c vc) w wr ∧ P) (hb : Below wr.heap.size wr w') :
    EM W H ao n cap Z k p q u d c (.slice (some ⟨vg, 0, none⟩) c vc) w w' ∧ w'.cell? ⟨w.heap.size, 0, none⟩ = some (.int .i64 W) ∧ w'.cell? ⟨w.heap.size, 1, none⟩ = some (.int .i64 H) ∧ w'.cell? ⟨w.heap.size, 2, none⟩ = some (.slice ao n cap) ∧ w'.cell? ⟨vg, i, none⟩ = some (.int .i64 t) := em_all hi (And.intro (h.1.stays hb) trivial)
theorem em_put {W H : Int} {ao : Option Addr} {n cap : Nat} {Z : Nat → Int} {k : Int} {p q : Nat} {u : Int} {d c vg vc i : Nat} {t : Int} {w wr w' : World} {P : Prop} (hI : Ints w ao n Z) (hi : i < c ∧ tl p d i = t) (h : EM W H ao n cap Z k p q u d c (.slice (some ⟨vg, 0, none⟩) c vc) w wr ∧ P) {B : Nat} (hB : vg < B ∧ w.heap.size + 2 ≤ B) (hb : Below B wr w') :
    EM W H ao n cap Z k p q u d c (.slice (some ⟨vg, 0, none⟩) c vc) w w' ∧ w'.cell? ⟨w.heap.size, 0, none⟩ = some (.int .i64 W) ∧ w'.cell? ⟨w.heap.size, 1, none⟩ = some (.int .i64 H) ∧ w'.cell? ⟨w.heap.size, 2, none⟩ = some (.slice ao n cap) ∧ w'.cell? ⟨vg, i, none⟩ = some (.int .i64 t) := em_all hi (And.intro (EM.mk (h.1.mb.low hI (hb.mono hB.2)) (row_below h.1.row hb (fun k e => by cases e; exact hB.1))) trivial)
theorem em_ints {W H : Int} {ao : Option Addr} {n cap : Nat} {Z : Nat → Int} {k : Int} {p q : Nat} {u : Int} {d c : Nat} {v : Value} {w wr : World} {P : Prop} (h : EM W H ao n cap Z k p q u d c v w wr ∧ P) : Ints wr ao n Z := h.1.mb.ints
end Go.Proofs.Ytpohhcmkkjcelaa
