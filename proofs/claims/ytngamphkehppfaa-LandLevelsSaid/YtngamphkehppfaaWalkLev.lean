/-
  The walk of Level where it does not refuse ahead of all work.
-/
import Derived.Test.YtngamphkehppfaaWalkLevNo
namespace Go.Proofs.Ytngamphkehppfaa
open Go.RowKit

/-- The j-th corner of a list of tiles. -/
def plc (W : Nat) (T : Nat → Int) (j : Nat) : Nat := pl W (T (j / 4)).toNat (j % 4)
theorem pl_lt {W H n t : Nat} {Z : Nat → Int} (hg : Good W H n Z) (ht : t < W * H) (q : Nat) : pl W t q < n := by
  have h := nw_lt ht
  rw [← hg.len] at h
  unfold pl
  split <;> omega
theorem plc_at (W : Nat) (T : Nat → Int) (k q : Nat) (hq : q < 4) : plc W T (4 * k + q) = pl W (T k).toNat q := by
  unfold plc
  rw [show (4 * k + q) / 4 = k by omega, show (4 * k + q) % 4 = q by omega]
/-- A tile's corners, by an index. -/
theorem ix_any (W t q : Nat) (hq : q < 4) (w : World) : (Instr.index 78 (.agg #[.int .i64 (pl W t 0 : Nat), .int .i64 (pl W t 1 : Nat), .int .i64 (pl W t 2 : Nat), .int .i64 (pl W t 3 : Nat)]) (.int .i64 (q : Int))).run Try.prog w = .ok (.int .i64 (pl W t q : Nat)) w := by
  match q, hq with
  | 0, _ => exact ix0 _ _ _ _ w
  | 1, _ => exact ix1 _ _ _ _ w
  | 2, _ => exact ix2 _ _ _ _ w
  | 3, _ => exact ix3 _ _ _ _ w
/-- What Level hands back where it does not refuse ahead of all work. -/
def LvGo (W H n m : Nat) (F : Nat → Int) (h : Int) (T : Nat → Int) (Z : Nat → Int) (k : Nat) (w : World) (r : Ending) (w' : World) : Prop :=
  Below w.heap.size w w' ∧ ((lev W H n m F h (plc W T) Z (4 * k) = none ∧ r = .returned (none3 7)) ∨
    ∃ C X ao cap, lev W H n m F h (plc W T) Z (4 * k) = some (C, X) ∧ r = .returned (.tuple #[lv W H (.slice ao n cap), .int .i64 (C * 250 : Nat), .int .i64 0]) ∧ Ints w' ao n X)
/-- The memory of Level. -/
structure LV (B sv W H n cap1 g1 g2 : Nat) (bx : Array Value) (G : Nat → Bool) (Y : Nat → Int) (w wr : World) : Prop where
  b2 : Bx2 B bx #[.int .i64 0, .int .i64 0, .slice none 0 0] w wr
  hs : wr.heap[sv]? = some (.cells #[.int .i64 W, .int .i64 H, .slice (some ⟨g1, 0, none⟩) n cap1, .slice (some ⟨g2, 0, none⟩) n n] 85 (0, 0))
  r1 : wr.ownsRow (B + 2) 3 1 (.slice (some ⟨g1, 0, none⟩) n cap1) n (ints n Y)
  r2 : wr.ownsRow (B + 2) 4 1 (.slice (some ⟨g2, 0, none⟩) n n) n (bools n G)
theorem LV.stays {B sv W H n cap1 g1 g2 : Nat} {bx : Array Value} {G : Nat → Bool} {Y : Nat → Int} {w wr w' : World} (h : LV B sv W H n cap1 g1 g2 bx G Y w wr) (k : Below wr.heap.size wr w') : LV B sv W H n cap1 g1 g2 bx G Y w w' :=
  ⟨h.b2.stays k, (k.block _ (heap_lt h.hs)).trans h.hs, row_stays h.r1 k, row_stays h.r2 k⟩
theorem LV.box {B sv W H n cap1 g1 g2 : Nat} {bx : Array Value} {G : Nat → Bool} {Y : Nat → Int} {w wr w' : World} (h : LV B sv W H n cap1 g1 g2 bx G Y w wr) (hg : wr.grownBy w' (some g1)) : Bx2 B bx #[.int .i64 0, .int .i64 0, .slice none 0 0] w w' := by
  have h1 := (h.r1.lt g1 rfl).1
  have hz := heap_lt h.b2.hr
  exact ⟨h.b2.below.grown hg (by omega) (fun k hk => by cases hk; omega), (hg.block _ (heap_lt h.b2.hb) (by simp; omega)).trans h.b2.hb, (hg.block _ hz (by simp; omega)).trans h.b2.hr⟩
theorem LV.next {B sv W H n cap1 g1 g2 : Nat} {bx : Array Value} {G : Nat → Bool} {Y X : Nat → Int} {w wr w' : World} (h : LV B sv W H n cap1 g1 g2 bx G Y w wr) (hne : g1 ≠ g2) (hsv : g1 < sv) (hg : wr.grownBy w' (some g1))
    (hr : w'.ownsRow (B + 2) 3 1 (.slice (some ⟨g1, 0, none⟩) n cap1) n (ints n X)) : LV B sv W H n cap1 g1 g2 bx G X w w' :=
  ⟨h.box hg, (hg.block _ (heap_lt h.hs) (by simp; omega)).trans h.hs, hr, h.r2.kept hg (.inr (by simp [Value.ownBlock]; omega))⟩

set_option maxRecDepth 20000 in
set_option maxHeartbeats 6400000 in
theorem level_go (W H : Nat) (ao : Option Addr) (n cap : Nat) (Z : Nat → Int) (hg : Good W H n Z) (to : Option Addr) (k capt : Nat) (hk : k ≤ 1000) (T : Nat → Int) (h : Int) (hh : 0 ≤ h ∧ h ≤ 15) (hf : ∀ i, i < k → tileB W H (T i) = true)
    (fo : Option Addr) (m capf : Nat) (hm : m ≤ 9223372036854775807) (F : Nat → Int) (w : World) (hI : Ints w ao n Z) (hT : Ints w to k T) (hF : Ints w fo m F) :
    Calls Try.prog 37 #[lv W H (.slice ao n cap), .slice to k capt, .int .i64 h, .slice fo m capf] w (LvGo W H n m F h T Z k w) := by
  have hst := bx2_start w #[.int .i64 W, .int .i64 H, .slice ao n cap] #[.int .i64 0, .int .i64 0, .slice none 0 0]
  have HI := hid (hI.stays hst.below)
  have HIW := hid hI
  have HST := hid hst
  have HTT := hid hT
  have HFF := hid hF
  have HG := hid hg
  have HE := hid hg.err
  obtain ⟨hW1, hW2, hH1, hH2⟩ := hg.side
  have hlb := hg.shaped.bound
  have HF := hid hf
  have HLI := hid (fun j C Y => lev_inv (m := m) (F := F) (P := plc W T) hg hh j C Y)
  have HBR := hid hh
  have hms := mul_small hW2 hH2
  have HTL : Hid (∀ i, i < k → ∃ t : Nat, T i = (t : Int) ∧ t < W * H) := hid (fun i hi => by
    have h1 := hf i hi
    unfold tileB at h1
    simp at h1
    exact ⟨(T i).toNat, by omega, by omega⟩)
  have HPN : Hid (∀ i, i < 4 * k → plc W T i < n) := hid (fun i hi => by
    obtain ⟨t, ht, htl⟩ := HTL.out (i / 4) (by omega)
    unfold plc
    rw [ht, Int.toNat_natCast]
    exact pl_lt HG.out htl _)
  obtain ⟨h1, h2⟩ := hh
  have hk2 : ¬ (1000 : Int) < (k : Int) := by omega
  clear hI hg hst hT hf hF
  go_enter Try.func37, Try.ntmps37
  go_wp2_with fail
  refine (validate_any W H ao n cap Z (by omega) _ HI.out 0 HE.out).mono ?_
  rintro r w2 ⟨rfl, hb2⟩
  have HS0 := hid (HST.out.stays hb2)
  obtain ⟨B, hB⟩ : ∃ B, B = w.heap.size := ⟨_, rfl⟩
  have HBB := hid hB
  simp only [← hB] at HS0 ⊢
  clear hB hb2 HI HST
  go_wp2_with (first
    | (go_at_call 44; refine (isHeight_yes (by omega) (by omega) _).mono ?_; rintro e w' ⟨rfl, rfl⟩)
    | fail)
  go_loopw [39] (fun iv wr => ∃ j : Nat, j ≤ k ∧ iv = .int .i64 j ∧ Hid (Bx2 B #[.int .i64 W, .int .i64 H, .slice ao n cap] #[.int .i64 0, .int .i64 0, .slice none 0 0] w wr)) (fun iv _ => k - (intOf iv).toNat)
  case atStart => exact ⟨0, Nat.zero_le _, rfl, HS0⟩
  case round =>
    obtain ⟨j, hj, rfl, H2⟩ := hrel
    clear HS0
    by_cases hlt : j < k
    · obtain ⟨b, off, rfl, hbz0, hc⟩ := HTT.out j hlt
      have c := (H2.out.below.cell (p := ⟨b, off + j, none⟩) (by rw [HBB.out]; exact hbz0)).trans hc
      obtain ⟨t, ht⟩ : ∃ t, T j = t := ⟨_, rfl⟩
      have hti := HF.out j hlt
      rw [ht] at c hti
      have HTI := hid hti
      have d0 : wr.cell? ⟨B, 0, none⟩ = some (.int .i64 W) := cell_of_row wr B 0 _ _ _ H2.out.hb
      have d1 : wr.cell? ⟨B, 1, none⟩ = some (.int .i64 H) := cell_of_row wr B 1 _ _ _ H2.out.hb
      have d2 : wr.cell? ⟨B, 2, none⟩ = some (.slice ao n cap) := cell_of_row wr B 2 _ _ _ H2.out.hb
      clear ht hc hti
      go_wp2_with fail
      refine (isTile_any W H hW2 hH2 _ t _).mono ?_
      rw [HTI.out]
      rintro e w3 ⟨rfl, hw3⟩
      have HS3 := hid (H2.out.stays (Joins.below_alloc1 wr (.cells #[.int .i64 W, .int .i64 H, .slice ao n cap] 24)))
      rw [hw3] at HS3
      clear hw3 d0 d1 d2 c
      go_wp2_with fail
      go_roundw
      case rel => exact ⟨j + 1, by omega, by go_num, HS3⟩
      case measure => simp [intOf]; omega
    · obtain rfl : k = j := by omega
      have d0 : wr.cell? ⟨B, 0, none⟩ = some (.int .i64 W) := cell_of_row wr B 0 _ _ _ H2.out.hb
      have d1 : wr.cell? ⟨B, 1, none⟩ = some (.int .i64 H) := cell_of_row wr B 1 _ _ _ H2.out.hb
      have d2 : wr.cell? ⟨B, 2, none⟩ = some (.slice ao n cap) := cell_of_row wr B 2 _ _ _ H2.out.hb
      have HA0 := hid (HBB.out ▸ H2.out.below : Below w.heap.size w wr)
      go_wp2_with fail
      refine (open_any W H ao n cap Z HG.out fo m capf hm F _ (HIW.out.stays HA0.out) (HFF.out.stays HA0.out)).mono ?_
      rintro r w3 ⟨g1, g2, cap1, rfl, hr1, hr2, hne, hb3⟩
      have hzB := heap_lt H2.out.hr
      have ka := Joins.below_alloc1 w3 (.cells #[.int .i64 W, .int .i64 H, .slice (some ⟨g1, 0, none⟩) n cap1, .slice (some ⟨g2, 0, none⟩) n n] 85)
      have HV : Hid (LV B w3.heap.size W H n cap1 g1 g2 #[.int .i64 W, .int .i64 H, .slice ao n cap] (heldB W H F m) Z w (w3.alloc (.cells #[.int .i64 W, .int .i64 H, .slice (some ⟨g1, 0, none⟩) n cap1, .slice (some ⟨g2, 0, none⟩) n n] 85))) :=
        hid ⟨(H2.out.stays hb3).stays ka, heap_alloc_new w3 _, (row_stays hr1 ka).mono' (by omega), (row_stays hr2 ka).mono' (by omega)⟩
      have hg1 := (hr1.lt g1 rfl).2
      have HNE := hid hne
      obtain ⟨sv, hsv⟩ : ∃ sv, sv = w3.heap.size := ⟨_, rfl⟩
      rw [← hsv] at HV hg1
      clear hr1 hr2 hne hb3 ka d0 d1 d2 HA0 hzB H2
      go_wp2_with fail
      simp only [← hsv]
      clear hsv
      generalize w3.alloc (.cells #[.int .i64 W, .int .i64 H, .slice (some ⟨g1, 0, none⟩) n cap1, .slice (some ⟨g2, 0, none⟩) n n] 85) = w4 at *
      go_loopw [54, 15] (fun iv cv wr => ∃ (i C : Nat) (Y : Nat → Int), i ≤ k ∧ iv = .int .i64 i ∧ cv = .int .i64 (C * 250 : Nat) ∧ Hid (lev W H n m F h (plc W T) Z (4 * i) = some (C, Y)) ∧ Hid (LV B sv W H n cap1 g1 g2 #[.int .i64 W, .int .i64 H, .slice ao n cap] (heldB W H F m) Y w wr)) (fun iv _ _ => k - (intOf iv).toNat)
      case atStart => exact ⟨0, 0, Z, Nat.zero_le _, rfl, rfl, hid rfl, HV⟩
      case round =>
        obtain ⟨i, C, Y, hi, rfl, rfl, hL, hV⟩ := hrel
        clear HV
        by_cases hlt : i < k
        · obtain ⟨b, off, rfl, hbz0, hc⟩ := HTT.out i hlt
          have c := (hV.out.b2.below.cell (p := ⟨b, off + i, none⟩) (by rw [HBB.out]; exact hbz0)).trans hc
          obtain ⟨t, ht, htl⟩ := HTL.out i hlt
          rw [ht] at c
          have HTI := hid ht
          have HTB := hid htl
          have d0 := cell_of_row _ B 0 _ _ _ hV.out.b2.hb
          have d1 := cell_of_row _ B 1 _ _ _ hV.out.b2.hb
          have d2 := cell_of_row _ B 2 _ _ _ hV.out.b2.hb
          simp only [List.getElem?_toArray, List.getElem?_cons_zero, List.getElem?_cons_succ] at d0 d1 d2
          have ht2 : t ≤ 1024 := by omega
          clear ht htl hc
          go_wp2_with fail
          refine (places_any W H (by omega) hW2 hH2 _ t HTB.out _).mono ?_
          rintro r w5 ⟨rfl, hb5⟩
          have HV5 := hid (hV.out.stays hb5)
          clear hb5 d0 d1 d2 c hV
          have HIX := hid (ix_any W t)
          have e4 : four W t = .agg #[.int .i64 (pl W t 0 : Nat), .int .i64 (pl W t 1 : Nat), .int .i64 (pl W t 2 : Nat), .int .i64 (pl W t 3 : Nat)] := rfl
          rw [e4]
          generalize pl W t 0 = a0 at HIX ⊢
          generalize pl W t 1 = a1 at HIX ⊢
          generalize pl W t 2 = a2 at HIX ⊢
          generalize pl W t 3 = a3 at HIX ⊢
          clear e4
          go_wp2_with fail
          go_loopw [61, 15] (fun iv cv wr => ∃ (q C : Nat) (Y : Nat → Int), q ≤ 4 ∧ iv = .int .i64 q ∧ cv = .int .i64 (C * 250 : Nat) ∧ Hid (lev W H n m F h (plc W T) Z (4 * i + q) = some (C, Y)) ∧ Hid (LV B sv W H n cap1 g1 g2 #[.int .i64 W, .int .i64 H, .slice ao n cap] (heldB W H F m) Y w wr)) (fun iv _ _ => 4 - (intOf iv).toNat)
          case atStart => exact ⟨0, C, Y, by omega, rfl, rfl, hL, HV5⟩
          case round =>
            clear HV5 hL
            obtain ⟨q, C, Y, hq, rfl, rfl, hL, hV⟩ := hrel
            have hlv := HLI.out _ C Y (fun a ha => HPN.out a (by omega)) hL.out
            have hcost := hlv.cost
            have hgood := hid hlv.good
            have hC : C ≤ 70000000 := by
              have h5 : (4 * i + q) * (15 * n) ≤ 4000 * (15 * 1089) := Nat.mul_le_mul (by omega) (by omega)
              omega
            clear hlv hcost
            by_cases hq4 : q < 4
            · have hix := HIX.out q hq4
              have hxp := plc_at W T i q hq4
              rw [HTI.out, Int.toNat_natCast] at hxp
              have hxn := HPN.out (4 * i + q) (by omega)
              obtain ⟨x, hx⟩ : ∃ x, pl W t q = x := ⟨_, rfl⟩
              rw [hx] at hix hxp
              rw [hxp] at hxn
              have HXP := hid hxp
              have s0 := cell_of_row _ sv 0 _ _ _ hV.out.hs
              have s1 := cell_of_row _ sv 1 _ _ _ hV.out.hs
              have s2 := cell_of_row _ sv 2 _ _ _ hV.out.hs
              have s3 := cell_of_row _ sv 3 _ _ _ hV.out.hs
              simp only [List.getElem?_toArray, List.getElem?_cons_zero, List.getElem?_cons_succ] at s0 s1 s2 s3
              clear hx hxp
              have hq5 : (q : Int) < 4 := by omega
              go_wp2_with fail
              refine (bring_any W H n cap1 Y m F h x hgood.out hxn HBR.out g1 g2 _ hV.out.r1 hV.out.r2 HNE.out).mono ?_
              rintro r w7 ⟨hgr, (⟨hno, rfl⟩ | ⟨c, X, hye, rfl, hro⟩)⟩
              · have HN := hid (lev_none (lev_no hL.out (by rw [HXP.out]; exact hno)) (4 * k - (4 * i + q + 1)))
                rw [show 4 * i + q + 1 + (4 * k - (4 * i + q + 1)) = 4 * k by omega] at HN
                have H2 := hid (hV.out.box hgr)
                clear hno hgr s0 s1 s2 s3 hV
                have hr := H2.out.hr
                have r0 : w7.cell? ⟨B + 1, 0, none⟩ = some (.int .i64 0) := cell_of_row w7 (B + 1) 0 _ _ _ hr
                have r1 : w7.cell? ⟨B + 1, 1, none⟩ = some (.int .i64 0) := cell_of_row w7 (B + 1) 1 _ _ _ hr
                have r2 : w7.cell? ⟨B + 1, 2, none⟩ = some (.slice none 0 0) := cell_of_row w7 (B + 1) 2 _ _ _ hr
                have f0 : w7.frozen? ⟨B + 1, 0, none⟩ = false := frozen_of_row w7 (B + 1) 0 _ _ hr
                have f1 : w7.frozen? ⟨B + 1, 1, none⟩ = false := frozen_of_row w7 (B + 1) 1 _ _ hr
                have f2 : w7.frozen? ⟨B + 1, 2, none⟩ = false := frozen_of_row w7 (B + 1) 2 _ _ hr
                have hbz := heap_lt hr
                clear hr
                go_wp2_with fail
                have k3 := set3 H2.out.hr (.int .i64 0) (.int .i64 0) (.slice none 0 0)
                have k4 := set3_below (g := B + 1) H2.out.below (Nat.le_succ _) (.int .i64 0) (.int .i64 0) (.slice none 0 0)
                clear r0 r1 r2 f0 f1 f2
                generalize World.setCell _ _ _ = w9 at k3 k4 ⊢
                have q0 := cell_of_row w9 (B + 1) 0 _ _ _ k3
                have q1 := cell_of_row w9 (B + 1) 1 _ _ _ k3
                have q2 := cell_of_row w9 (B + 1) 2 _ _ _ k3
                simp at q0 q1 q2
                refine bodyPost_ret (v := none3 7) (by simp [results, Try.results37, go_sem, q0, q1, q2]) rfl ⟨?_, .inl ⟨HN.out, rfl⟩⟩
                rw [← HBB.out]; exact k4
              · have HN := hid (lev_yes hL.out (by rw [HXP.out]; exact hye))
                have HVN := hid (hV.out.next HNE.out hg1 hgr hro)
                have hc5 := (brg_inv hgood.out hxn HBR.out _ _ _ (Nat.le_refl _) hye).cost
                have hc6 : c ≤ 20000 := by
                  have h5 := hgood.out.high x hxn
                  have h6 := HBR.out
                  have h7 : (h - Y x).natAbs * n ≤ 15 * 1089 := Nat.mul_le_mul (by omega) (by omega)
                  omega
                clear hye hgr hro s0 s1 s2 s3 hc5 hV
                go_wp2_with fail
                go_roundw
                case rel => exact ⟨q + 1, C + c, X, by omega, by go_num, by first | go_num | (congr 1; omega), HN, HVN⟩
                case measure => simp [intOf]; omega
            · obtain rfl : q = 4 := by omega
              go_wp2_with fail
              go_roundw
              case rel => exact ⟨i + 1, C, Y, by omega, by go_num, rfl, hid (by rw [show 4 * (i + 1) = 4 * i + 4 by omega]; exact hL.out), hV⟩
              case measure => simp [intOf]; omega
        · obtain rfl : k = i := by omega
          have s0 := cell_of_row _ sv 0 _ _ _ hV.out.hs
          have s1 := cell_of_row _ sv 1 _ _ _ hV.out.hs
          have s2 := cell_of_row _ sv 2 _ _ _ hV.out.hs
          simp only [List.getElem?_toArray, List.getElem?_cons_zero, List.getElem?_cons_succ] at s0 s1 s2
          have hr := hV.out.b2.hr
          have hg1B := (hV.out.r1.lt g1 rfl).1
          have r0 := cell_of_row _ (B + 1) 0 _ _ _ hr
          have r1 := cell_of_row _ (B + 1) 1 _ _ _ hr
          have r2 := cell_of_row _ (B + 1) 2 _ _ _ hr
          simp only [List.getElem?_toArray, List.getElem?_cons_zero, List.getElem?_cons_succ] at r0 r1 r2
          have f0 := frozen_of_row _ (B + 1) 0 _ _ hr
          have f1 := frozen_of_row _ (B + 1) 1 _ _ hr
          have f2 := frozen_of_row _ (B + 1) 2 _ _ hr
          have hbz := heap_lt hr
          have n1 : ¬ sv = B + 1 := by omega
          have n2 : ¬ B + 1 = sv := by omega
          clear hr
          go_wp2_with fail
          have k3 := set3 hV.out.b2.hr (.int .i64 W) (.int .i64 H) (.slice (some ⟨g1, 0, none⟩) n cap1)
          have k4 := set3_below (g := B + 1) hV.out.b2.below (Nat.le_succ _) (.int .i64 W) (.int .i64 H) (.slice (some ⟨g1, 0, none⟩) n cap1)
          have k5 := set3_row (g := B + 1) hV.out.r1 (by simp [Value.ownBlock]; omega) (.int .i64 W) (.int .i64 H) (.slice (some ⟨g1, 0, none⟩) n cap1)
          clear r0 r1 r2 f0 f1 f2 s0 s1 s2
          generalize World.setCell _ _ _ = w9 at k3 k4 k5 ⊢
          have q0 := cell_of_row w9 (B + 1) 0 _ _ _ k3
          have q1 := cell_of_row w9 (B + 1) 1 _ _ _ k3
          have q2 := cell_of_row w9 (B + 1) 2 _ _ _ k3
          simp at q0 q1 q2
          refine bodyPost_ret (v := .tuple #[lv W H (.slice (some ⟨g1, 0, none⟩) n cap1), .int .i64 (C * 250 : Nat), .int .i64 0]) (by simp [results, Try.results37, go_sem, q0, q1, q2]) rfl ⟨?_, .inr ⟨C, Y, _, cap1, hL.out, rfl, ints_of_row k5⟩⟩
          rw [← HBB.out]; exact k4
end Go.Proofs.Ytngamphkehppfaa
