/-
  Two plants side by side in a law's memory; the law PlantNews.
-/
import Derived.Test.YtnhkblkijiipeaaFLVal
import Derived.Test.YtnhkblkijiipeaaFRNew
namespace Go.Proofs.Ytnhkblkijiipeaa
open Go.RowKit

/-- The first answer's box at X. -/
structure Q1 (p : Pl) (B X : Nat) (w wr : World) : Prop where
  below : Below B w wr
  le : B ≤ wr.heap.size
  bx : wr.heap[X]? = some (boxOf p)
  lists : PlAt wr p
theorem Q1.stays {p : Pl} {B X : Nat} {w wr w' : World} (h : Q1 p B X w wr) (hb : Below wr.heap.size wr w') : Q1 p B X w w' :=
  ⟨h.below.trans (hb.mono h.le), Nat.le_trans h.le hb.size, (hb.block _ (heap_lt h.bx)).trans h.bx, h.lists.stays hb⟩
theorem Q1.start {p : Pl} {B : Nat} {w wr : World} (hb : Below B w wr) (hB : B ≤ wr.heap.size) (h : PlAt wr p) : Q1 p B wr.heap.size w (wr.alloc (boxOf p)) :=
  ⟨hb.alloc hB _, by rw [World.size_alloc]; omega, heap_new _ _, h.stays ((Below.refl _ _).alloc (Nat.le_refl _) _)⟩
/-- Both answers' boxes. -/
structure Q2 (p q : Pl) (B X Y : Nat) (w wr : World) : Prop where
  one : Q1 p B X w wr
  by' : wr.heap[Y]? = some (boxOf q)
  lists : PlAt wr q
theorem Q2.stays {p q : Pl} {B X Y : Nat} {w wr w' : World} (h : Q2 p q B X Y w wr) (hb : Below wr.heap.size wr w') : Q2 p q B X Y w w' :=
  ⟨h.one.stays hb, (hb.block _ (heap_lt h.by')).trans h.by', h.lists.stays hb⟩
theorem Q2.start {p q : Pl} {B X : Nat} {w wr : World} (h : Q1 p B X w wr) (hq : PlAt wr q) : Q2 p q B X wr.heap.size w (wr.alloc (boxOf q)) :=
  ⟨h.stays ((Below.refl _ _).alloc (Nat.le_refl _) _), heap_new _ _, hq.stays ((Below.refl _ _).alloc (Nat.le_refl _) _)⟩
theorem Q1.c0 {p : Pl} {B X : Nat} {w wr : World} (h : Q1 p B X w wr) : wr.cell? ⟨X, 0, none⟩ = some (.int .i64 p.k) := cell_of_row _ _ 0 _ _ _ h.bx
theorem Q1.c1 {p : Pl} {B X : Nat} {w wr : World} (h : Q1 p B X w wr) : wr.cell? ⟨X, 1, none⟩ = some (.int .i64 p.t) := cell_of_row _ _ 1 _ _ _ h.bx
theorem Q1.c2 {p : Pl} {B X : Nat} {w wr : World} (h : Q1 p B X w wr) : wr.cell? ⟨X, 2, none⟩ = some (.int .i64 p.l) := cell_of_row _ _ 2 _ _ _ h.bx
theorem Q1.c3 {p : Pl} {B X : Nat} {w wr : World} (h : Q1 p B X w wr) : wr.cell? ⟨X, 3, none⟩ = some (.slice p.st.a p.st.n p.st.c) := cell_of_row _ _ 3 _ _ _ h.bx
theorem Q1.c4 {p : Pl} {B X : Nat} {w wr : World} (h : Q1 p B X w wr) : wr.cell? ⟨X, 4, none⟩ = some (.slice p.re.a p.re.n p.re.c) := cell_of_row _ _ 4 _ _ _ h.bx
theorem Q1.c5 {p : Pl} {B X : Nat} {w wr : World} (h : Q1 p B X w wr) : wr.cell? ⟨X, 5, none⟩ = some (.slice p.ma.a p.ma.n p.ma.c) := cell_of_row _ _ 5 _ _ _ h.bx
theorem Q1.c6 {p : Pl} {B X : Nat} {w wr : World} (h : Q1 p B X w wr) : wr.cell? ⟨X, 6, none⟩ = some (.slice p.mo.a p.mo.n p.mo.c) := cell_of_row _ _ 6 _ _ _ h.bx
theorem Q1.c7 {p : Pl} {B X : Nat} {w wr : World} (h : Q1 p B X w wr) : wr.cell? ⟨X, 7, none⟩ = some (.int .i64 p.g) := cell_of_row _ _ 7 _ _ _ h.bx
theorem Q1.c8 {p : Pl} {B X : Nat} {w wr : World} (h : Q1 p B X w wr) : wr.cell? ⟨X, 8, none⟩ = some (.int .i64 p.i) := cell_of_row _ _ 8 _ _ _ h.bx
theorem Q1.c9 {p : Pl} {B X : Nat} {w wr : World} (h : Q1 p B X w wr) : wr.cell? ⟨X, 9, none⟩ = some (.bool p.o) := cell_of_row _ _ 9 _ _ _ h.bx
theorem Q2.d0 {p q : Pl} {B X Y : Nat} {w wr : World} (h : Q2 p q B X Y w wr) : wr.cell? ⟨Y, 0, none⟩ = some (.int .i64 q.k) := cell_of_row _ _ 0 _ _ _ h.by'
theorem Q2.d1 {p q : Pl} {B X Y : Nat} {w wr : World} (h : Q2 p q B X Y w wr) : wr.cell? ⟨Y, 1, none⟩ = some (.int .i64 q.t) := cell_of_row _ _ 1 _ _ _ h.by'
theorem Q2.d2 {p q : Pl} {B X Y : Nat} {w wr : World} (h : Q2 p q B X Y w wr) : wr.cell? ⟨Y, 2, none⟩ = some (.int .i64 q.l) := cell_of_row _ _ 2 _ _ _ h.by'
theorem Q2.d3 {p q : Pl} {B X Y : Nat} {w wr : World} (h : Q2 p q B X Y w wr) : wr.cell? ⟨Y, 3, none⟩ = some (.slice q.st.a q.st.n q.st.c) := cell_of_row _ _ 3 _ _ _ h.by'
theorem Q2.d4 {p q : Pl} {B X Y : Nat} {w wr : World} (h : Q2 p q B X Y w wr) : wr.cell? ⟨Y, 4, none⟩ = some (.slice q.re.a q.re.n q.re.c) := cell_of_row _ _ 4 _ _ _ h.by'
theorem Q2.d5 {p q : Pl} {B X Y : Nat} {w wr : World} (h : Q2 p q B X Y w wr) : wr.cell? ⟨Y, 5, none⟩ = some (.slice q.ma.a q.ma.n q.ma.c) := cell_of_row _ _ 5 _ _ _ h.by'
theorem Q2.d6 {p q : Pl} {B X Y : Nat} {w wr : World} (h : Q2 p q B X Y w wr) : wr.cell? ⟨Y, 6, none⟩ = some (.slice q.mo.a q.mo.n q.mo.c) := cell_of_row _ _ 6 _ _ _ h.by'
theorem Q2.d7 {p q : Pl} {B X Y : Nat} {w wr : World} (h : Q2 p q B X Y w wr) : wr.cell? ⟨Y, 7, none⟩ = some (.int .i64 q.g) := cell_of_row _ _ 7 _ _ _ h.by'
theorem Q2.d8 {p q : Pl} {B X Y : Nat} {w wr : World} (h : Q2 p q B X Y w wr) : wr.cell? ⟨Y, 8, none⟩ = some (.int .i64 q.i) := cell_of_row _ _ 8 _ _ _ h.by'
theorem Q2.d9 {p q : Pl} {B X Y : Nat} {w wr : World} (h : Q2 p q B X Y w wr) : wr.cell? ⟨Y, 9, none⟩ = some (.bool q.o) := cell_of_row _ _ 9 _ _ _ h.by'
theorem new_right {m : Nat} {K : Nat → Kd} {kind tile : Int} (h : NwErr m K kind tile = 0) : ∃ k, DRight m K (NwD m K kind tile) k := by
  have h0 := h
  unfold NwErr at h
  by_cases h1 : KErr m K = 0
  · rw [if_neg (by simpa using h1)] at h
    cases h2 : inB 0 kind (m - 1)
    · rw [h2, if_pos rfl] at h; exact absurd h (by decide)
    · rw [if_neg (by rw [h2]; simp)] at h
      cases h3 : inB 0 tile 1000000
      · rw [h3, if_pos rfl] at h; exact absurd h (by decide)
      · have hk := inB_iff.1 h2
        have ht := inB_iff.1 h3
        refine ⟨kind.toNat, KErr_kinds h1, h1, ?_, by omega, ?_, ?_⟩
        · unfold NwD; rw [if_pos h0]; show kind = _; omega
        · unfold NwD; rw [if_pos h0]; rfl
        · unfold NwD; rw [if_pos h0]
          exact ⟨ht, by show (1 : Int) ≤ 16 ∧ (16 : Int) ≤ 64; omega, fun _ _ => by show (0 : Int) ≤ 0 ∧ (0 : Int) ≤ 1000000; omega, fun _ _ => by show (0 : Int) ≤ 0 ∧ (0 : Int) ≤ 7; omega, fun _ _ => by show (0 : Int) ≤ 0 ∧ (0 : Int) ≤ 1000000; omega, fun _ _ => by show (0 : Int) ≤ 0 ∧ (0 : Int) ≤ 1000000; omega, by show (0 : Int) ≤ 0 ∧ (0 : Int) ≤ 1000000; omega, by show (0 : Int) ≤ 0 ∧ (0 : Int) ≤ 1000000; omega⟩
  · rw [if_pos h1] at h; exact absurd h h1
theorem new_n {m : Nat} {K : Nat → Kd} {kind tile : Int} : (NwD m K kind tile).n ≤ 1000 := by
  by_cases h : NwErr m K kind tile = 0
  · obtain ⟨k, hk⟩ := new_right h
    rw [hk.n]; have := hk.ks.mn k hk.lt; omega
  · unfold NwD; rw [if_neg h]; show 0 ≤ 1000; omega
set_option maxRecDepth 100000 in
set_option maxHeartbeats 12800000 in
theorem walk_news (ko : Option Addr) (m kc : Nat) (K : Nat → Kd) (hm : m ≤ maxLen) (hcap : m ≤ kc) (kind tile : Int) (w : World) (hK : Kds w ko m K) :
    Calls Try.prog 4 #[.slice ko m kc, .int .i64 kind, .int .i64 tile] w fun e w' => e = .returned (.bool true) ∧ Below w.heap.size w w' := by
  have HKB : Hid (∀ W, Below w.heap.size w W → Kds W ko m K) := hid (fun W hb => hK.stays hb)
  have HLG := hid (large_any ko m kc K zeroP hm w hK)
  obtain ⟨B, hB⟩ : ∃ B, w.heap.size = B := ⟨_, rfl⟩
  have HBW := hid hB
  have HLB : Hid (∀ W, Below w.heap.size w W → Below B w W ∧ B ≤ W.heap.size) := hid (fun W hb => ⟨by rw [← hB]; exact hb, by rw [← hB]; exact hb.size⟩)
  rw [hB] at HKB ⊢
  clear hK hB
  go_enter Try.func4, Try.ntmps4
  go_wp2_with fail
  refine HLG.out.mono ?_
  rintro e w2 ⟨b, rfl, hsz, hb⟩
  obtain ⟨hb2, hle2⟩ := HLB.out _ hb
  have H2 := hid hb2
  have HL2 := hid hle2
  clear hb hb2 hle2 HLG
  cases b
  rotate_left
  · clear hsz
    go_wp2_with fail
    refine (known_any _).mono ?_
    rintro e w3 ⟨rfl, hb⟩
    have H3 := hid (H2.out.trans (hb.mono HL2.out))
    clear hb
    go_wp2_with fail
    go_ret
    exact ⟨rfl, H3.out⟩
  have hz := hsz rfl
  have HSM := hid hz.small
  have hm3 : m ≤ 1000 := by have := hz.km; omega
  clear hsz hz
  obtain ⟨r, hr⟩ : ∃ r, NwErr m K kind tile = r := ⟨_, rfl⟩
  obtain ⟨D, hD⟩ : ∃ D, NwD m K kind tile = D := ⟨_, rfl⟩
  have HN1 := hid (fun W h => new_any ko m kc K hm3 HSM.out kind tile D r ⟨hr, hD⟩ W h)
  have HN2 := hid (fun W h => rnew_any ko m kc K hcap hm3 HSM.out kind tile D r ⟨hr, hD⟩ W h)
  have hDn : D.n ≤ 1000 := by rw [← hD]; exact new_n
  have HDR : Hid (r = 0 → ∃ k, DRight m K D k) := hid (fun h => by rw [← hD]; exact new_right (hr.trans h))
  have hrr : (r == r) = true := by simp
  clear hr hD
  go_wp2_with fail
  refine (HN1.out _ (HKB.out _ H2.out)).mono ?_
  rintro e w3 ⟨p1, rfl, hI1, hA1, hb⟩
  have HI1 := hid hI1
  have HQ1 := hid (Q1.start (H2.out.trans (hb.mono HL2.out)) (Nat.le_trans HL2.out hb.size) hA1)
  obtain ⟨X, hX⟩ : ∃ X, w3.heap.size = X := ⟨_, rfl⟩
  rw [hX] at HQ1
  clear hI1 hA1 hb H2 HL2
  go_upto_region 4 with fail
  rw [hX] at * 
  clear hX
  generalize World.alloc w3 _ = w4 at HQ1 ⊢
  go_wp2_with fail
  refine (HN2.out _ (HKB.out _ HQ1.out.below)).mono ?_
  rintro e w5 ⟨p2, rfl, hI2, hA2, hb⟩
  have HI2 := hid hI2
  have Q0 := hid (Q2.start (HQ1.out.stays hb) hA2)
  obtain ⟨Y, hY⟩ : ∃ Y, w5.heap.size = Y := ⟨_, rfl⟩
  rw [hY] at Q0
  clear hI2 hA2 hb HQ1
  go_upto_region 5 with fail
  clear hY
  generalize World.alloc w5 _ = w6 at Q0 ⊢
  have c0 := Q0.out.one.c0; have c1 := Q0.out.one.c1; have c2 := Q0.out.one.c2; have c3 := Q0.out.one.c3; have c4 := Q0.out.one.c4; have c5 := Q0.out.one.c5; have c6 := Q0.out.one.c6; have c7 := Q0.out.one.c7; have c8 := Q0.out.one.c8; have c9 := Q0.out.one.c9; have d0 := Q0.out.d0; have d1 := Q0.out.d1; have d2 := Q0.out.d2; have d3 := Q0.out.d3; have d4 := Q0.out.d4; have d5 := Q0.out.d5; have d6 := Q0.out.d6; have d7 := Q0.out.d7; have d8 := Q0.out.d8; have d9 := Q0.out.d9
  have HS := hid (fun W h h' => sameplant_any p1 p2 D HI1.out HI2.out hDn W h h')
  by_cases h0 : r = 0
  · have hnn : (r != 0) = false := by simp [h0]
    have HV : Hid (∀ W, Kds W ko m K → PlAt W p1 → Calls Try.prog 15 #[.slice ko m kc, pv p1] W fun e w' => e = .returned (.int .i64 0) ∧ Below W.heap.size W w') := hid (fun W h h' => by
      obtain ⟨k, hk⟩ := HDR.out h0
      exact validate_any ko m kc K hm3 HSM.out p1 (HI1.out.small hDn) 0 (hk.right HI1.out).err W h h')
    clear h0
    go_wp2_with (first
      | (go_at_call 19; refine (HS.out _ Q0.out.one.lists Q0.out.lists).mono ?_; rintro e w7 ⟨rfl, hb⟩; have Q1 := hid (Q0.out.stays hb); clear c0 d0 c1 d1 c2 d2 c3 d3 c4 d4 c5 d5 c6 d6 c7 d7 c8 d8 c9 d9; clear hb; have c0 := Q1.out.one.c0; have c1 := Q1.out.one.c1; have c2 := Q1.out.one.c2; have c3 := Q1.out.one.c3; have c4 := Q1.out.one.c4; have c5 := Q1.out.one.c5; have c6 := Q1.out.one.c6; have c7 := Q1.out.one.c7; have c8 := Q1.out.one.c8; have c9 := Q1.out.one.c9; have d0 := Q1.out.d0; have d1 := Q1.out.d1; have d2 := Q1.out.d2; have d3 := Q1.out.d3; have d4 := Q1.out.d4; have d5 := Q1.out.d5; have d6 := Q1.out.d6; have d7 := Q1.out.d7; have d8 := Q1.out.d8; have d9 := Q1.out.d9)
      | (go_at_call 15; refine (HV.out _ (HKB.out _ Q1.out.one.below) Q1.out.one.lists).mono ?_; rintro e w8 ⟨rfl, hb⟩; have Q2 := hid (Q1.out.stays hb); clear hb)
      | (go_at_call 14; refine (known_any _).mono ?_; rintro e w9 ⟨rfl, hb⟩; have Q3 := hid (Q2.out.stays hb); clear hb))
    go_ret
    exact ⟨rfl, Q3.out.one.below⟩
  · have hnn : (r != 0) = true := by simpa using h0
    clear h0
    go_wp2_with (first
      | (go_at_call 19; refine (HS.out _ Q0.out.one.lists Q0.out.lists).mono ?_; rintro e w7 ⟨rfl, hb⟩; have Q1 := hid (Q0.out.stays hb); clear c0 d0 c1 d1 c2 d2 c3 d3 c4 d4 c5 d5 c6 d6 c7 d7 c8 d8 c9 d9; clear hb; have c0 := Q1.out.one.c0; have c1 := Q1.out.one.c1; have c2 := Q1.out.one.c2; have c3 := Q1.out.one.c3; have c4 := Q1.out.one.c4; have c5 := Q1.out.one.c5; have c6 := Q1.out.one.c6; have c7 := Q1.out.one.c7; have c8 := Q1.out.one.c8; have c9 := Q1.out.one.c9; have d0 := Q1.out.d0; have d1 := Q1.out.d1; have d2 := Q1.out.d2; have d3 := Q1.out.d3; have d4 := Q1.out.d4; have d5 := Q1.out.d5; have d6 := Q1.out.d6; have d7 := Q1.out.d7; have d8 := Q1.out.d8; have d9 := Q1.out.d9)
      | (go_at_call 14; refine (known_any _).mono ?_; rintro e w9 ⟨rfl, hb⟩; have Q2 := hid (Q1.out.stays hb); clear hb))
    go_ret
    exact ⟨rfl, Q2.out.one.below⟩
end Go.Proofs.Ytnhkblkijiipeaa
