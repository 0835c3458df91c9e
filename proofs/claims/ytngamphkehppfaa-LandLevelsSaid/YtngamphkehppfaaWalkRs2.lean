/-
  The walk of Shift of the reference where the land is right and the corner is on it.
-/
import Derived.Test.YtngamphkehppfaaWalkRs
namespace Go.Proofs.Ytngamphkehppfaa
open Go.RowKit

/-- The memory of the reference's Shift: the box, the result's block, the new land's block, its corners, the changed corners. -/
structure RS (B ob : Nat) (W H : Nat) (bx : Array Value) (v1 v2 : Value) (n1 n2 : Nat) (xs ys : List Value) (w wr : World) : Prop where
  below : Below B w wr
  hb : wr.heap[B]? = some (.cells bx 24 (0, 0))
  hr : wr.heap[B + 1]? = some (.cells #[.int .i64 0, .int .i64 0, .slice none 0 0] 24 (0, 0))
  ho : wr.heap[ob]? = some (.cells #[.int .i64 W, .int .i64 H, v1] 24 (0, 0))
  r1 : wr.ownsRow (ob + 1) 3 1 v1 n1 xs
  r2 : wr.ownsRow (ob + 1) 53 3 v2 n2 ys
  lt : B + 1 < ob
theorem RS.stays {B ob W H : Nat} {bx : Array Value} {v1 v2 : Value} {n1 n2 : Nat} {xs ys : List Value} {w wr w' : World} (h : RS B ob W H bx v1 v2 n1 n2 xs ys w wr) (k : Below wr.heap.size wr w') : RS B ob W H bx v1 v2 n1 n2 xs ys w w' := by
  have h1 := heap_lt h.hb
  exact ⟨h.below.trans (k.mono (by omega)), (k.block _ h1).trans h.hb, (k.block _ (heap_lt h.hr)).trans h.hr, (k.block _ (heap_lt h.ho)).trans h.ho, row_stays h.r1 k, row_stays h.r2 k, h.lt⟩
/-- Behind an append to the corners. -/
theorem RS.app1 {B ob W H : Nat} {bx : Array Value} {v1 v2 v' : Value} {n1 n2 n' : Nat} {xs ys xs' : List Value} {w wr w' : World} (h : RS B ob W H bx v1 v2 n1 n2 xs ys w wr) (hg : wr.grownBy w' v1.ownBlock) (hn : w'.ownsRow (ob + 1) 3 1 v' n' xs') :
    RS B ob W H bx v' v2 n' n2 xs' ys w (w'.setCell ⟨ob, 2, none⟩ v') := by
  have h1 := heap_lt h.hb
  have h2 := heap_lt h.hr
  have h3 := heap_lt h.ho
  have hl := h.lt
  have o1 := row_own h.r1
  have k1 : ∀ b, b < wr.heap.size → b ≤ ob → w'.heap[b]? = wr.heap[b]? := fun b hb hb' => hg.block b hb (fun e => by have := o1 b e.symm; omega)
  have hb1 : Below B w w' := h.below.grown hg (by omega) (fun k hk => by have := o1 k hk; omega)
  have hr2 : w'.ownsRow (ob + 1) 53 3 v2 n2 ys := h.r2.kept hg (row_apart h.r2 h.r1 (by decide))
  have hv' := row_own hn
  have hv2 := row_own hr2
  refine ⟨hb1.setCell (p := ⟨ob, 2, none⟩) (by show B ≤ ob; omega) _, ?_, ?_, heap_setCell_same w' ob 2 _ _ v' ((k1 ob h3 (Nat.le_refl _)).trans h.ho), ?_, ?_, hl⟩
  · exact (Below.heap_setCell _ _ _ B (by show B ≠ ob; omega)).trans ((k1 B h1 (by omega)).trans h.hb)
  · exact (Below.heap_setCell _ _ _ (B + 1) (by show B + 1 ≠ ob; omega)).trans ((k1 (B + 1) h2 (by omega)).trans h.hr)
  · exact row_other (a := ⟨ob, 2, none⟩) hn (fun e => by have := hv' ob e; omega) _
  · exact row_other (a := ⟨ob, 2, none⟩) hr2 (fun e => by have := hv2 ob e; omega) _
/-- Behind an append to the changed corners. -/
theorem RS.app2 {B ob W H : Nat} {bx : Array Value} {v1 v2 v' : Value} {n1 n2 n' : Nat} {xs ys ys' : List Value} {w wr w' : World} (h : RS B ob W H bx v1 v2 n1 n2 xs ys w wr) (hg : wr.grownBy w' v2.ownBlock) (hn : w'.ownsRow (ob + 1) 53 3 v' n' ys') :
    RS B ob W H bx v1 v' n1 n' xs ys' w w' := by
  have h1 := heap_lt h.hb
  have h2 := heap_lt h.hr
  have h3 := heap_lt h.ho
  have hl := h.lt
  have o2 := row_own h.r2
  have k1 : ∀ b, b < wr.heap.size → b ≤ ob → w'.heap[b]? = wr.heap[b]? := fun b hb hb' => hg.block b hb (fun e => by have := o2 b e.symm; omega)
  exact ⟨h.below.grown hg (by omega) (fun k hk => by have := o2 k hk; omega), (k1 B h1 (by omega)).trans h.hb, (k1 (B + 1) h2 (by omega)).trans h.hr, (k1 ob h3 (Nat.le_refl _)).trans h.ho, h.r1.kept hg (row_apart h.r1 h.r2 (by decide)), hn, hl⟩
theorem rs_start (w w2 : World) (B W H : Nat) (bx : Array Value) (h : Bx2 B bx #[.int .i64 0, .int .i64 0, .slice none 0 0] w w2) :
    RS B w2.heap.size W H bx (.slice none 0 0) (.slice none 0 0) 0 0 [] [] w (w2.alloc (.cells #[.int .i64 W, .int .i64 H, .slice none 0 0] 24)) := by
  have k := Joins.below_alloc1 w2 (.cells #[.int .i64 W, .int .i64 H, .slice none 0 0] 24)
  have h' := h.stays k
  exact ⟨h'.below, h'.hb, h'.hr, heap_alloc_new w2 _, World.ownsRow_nil _ _ _ _, World.ownsRow_nil _ _ _ _, heap_lt h.hr⟩

set_option maxRecDepth 20000 in
set_option maxHeartbeats 6400000 in
theorem refshift_go (W H : Nat) (ao : Option Addr) (n cap : Nat) (Z : Nat → Int) (hg : Good W H n Z) (x y : Nat) (hx : x ≤ W) (hy : y ≤ H) (up : Bool) (s : Int) (hw : Way up s) (bo : Option Addr) (m cap2 : Nat) (hm : m ≤ 9223372036854775807) (T : Nat → Int)
    (w : World) (hI : Ints w ao n Z) (hT : Ints w bo m T) (z : Int) (ez : z = Z (y * (W + 1) + x) + s) (L : List Nat) (hL : L = chs W x y z s Z n) (X : Nat → Int) (hX : X = newZ W x y z s Z) :
    Calls Try.prog 35 #[lv W H (.slice ao n cap), .int .i64 x, .int .i64 y, .bool up, .slice bo m cap2] w (ShGo W H n m T z L X w) := by
  have HE := hid hg.err
  obtain ⟨hW1, hW2, hH1, hH2⟩ := hg.side
  have hlb := hg.shaped.bound
  have hst := bx2_start w #[.int .i64 W, .int .i64 H, .slice ao n cap] #[.int .i64 0, .int .i64 0, .slice none 0 0]
  have HI := hid (hI.stays hst.below)
  have HTT := hid (hT.stays hst.below)
  have HST := hid hst
  have HG := hid hg
  have HM := hid (And.intro ez (And.intro hL hX))
  obtain ⟨a, ha⟩ : ∃ a, a = y * (W + 1) := ⟨_, rfl⟩
  have e1 : (y : Int) * ((W : Int) + 1) = (a : Int) := by rw [ha]; simp
  have hlt : a + x < n := by rw [ha]; exact hg.at_lt (by omega) (by omega)
  obtain ⟨b, off, rfl, hbw, hcell⟩ := hI.one (by omega)
  obtain ⟨i0, hi0, hi1, hi2, hi3⟩ := info_parts info3
  have HIN := hid (And.intro hi0 (And.intro hi1 (And.intro hi2 hi3)))
  clear hi0 hi1 hi2 hi3
  obtain ⟨i5, hi0, hi1, hi2, hi3⟩ := info_parts info53
  have HIC := hid (And.intro hi0 (And.intro hi1 (And.intro hi2 hi3)))
  clear hi0 hi1 hi2 hi3
  have hi := hg.high (a + x) hlt
  have HA := hid ha
  have HC := hid hcell
  have HI0 := hid hI
  have HT0 := hid hT
  clear hI hT hst hg ez hL hX ha hcell
  have key : ∀ up s, Way up s → Hid (z = Z (y * (W + 1) + x) + s ∧ L = chs W x y z s Z n ∧ X = newZ W x y z s Z) → Calls Try.prog 35 #[lv W H (.slice (some ⟨b, off, none⟩) n cap), .int .i64 x, .int .i64 y, .bool up, .slice bo m cap2] w (ShGo W H n m T z L X w) := by
    clear hw HM up s
    intro up s hw HM
    have HW := hid hw
    rcases hw with ⟨rfl, rfl⟩ | ⟨rfl, rfl⟩
    · go_enter Try.func35, Try.ntmps35
      go_wp2_with fail
      refine (refvalidate_any W H _ n cap Z (by omega) _ HI.out 0 HE.out).mono ?_
      rintro r w2 ⟨rfl, hb2⟩
      have H2 := hid (HST.out.stays hb2)
      have HI2 := hid (HI.out.stays hb2)
      have HT2 := hid (HTT.out.stays hb2)
      have c0 := ((HST.out.below.trans (hb2.mono (by simp; omega))).cell (p := ⟨b, off + (a + x), none⟩) hbw).trans (HC.out _ hlt)
      have hbz2 : b < w2.heap.size := Nat.lt_of_lt_of_le hbw H2.out.below.size
      obtain ⟨z0, hz0⟩ : ∃ z0, z0 = Z (a + x) := ⟨_, rfl⟩
      rw [← hz0] at c0 hi
      have ez' : z0 + 1 = z := by have := HM.out.1; rw [← HA.out, ← hz0] at this; omega
      obtain ⟨B, hB⟩ : ∃ B, B = w.heap.size := ⟨_, rfl⟩
      have HBB := hid hB
      have HZ0 := hid hz0
      simp only [← hB] at H2 ⊢
      clear hB hz0
      have d0 : w2.cell? ⟨B, 0, none⟩ = some (.int .i64 W) := cell_of_row w2 B 0 _ _ _ H2.out.hb
      have d1 : w2.cell? ⟨B, 1, none⟩ = some (.int .i64 H) := cell_of_row w2 B 1 _ _ _ H2.out.hb
      have d2 : w2.cell? ⟨B, 2, none⟩ = some (.slice (some ⟨b, off, none⟩) n cap) := cell_of_row w2 B 2 _ _ _ H2.out.hb
      have hBz : B < w2.heap.size := heap_lt H2.out.hb
      clear hb2
      by_cases hzz : 0 ≤ z ∧ z ≤ 15
      · obtain ⟨hz1, hz2⟩ := hzz
        go_wp2_with fail
        have HRS := hid (rs_start w w2 B W H _ H2.out)
        obtain ⟨ob, hob⟩ : ∃ ob, ob = w2.heap.size := ⟨_, rfl⟩
        have HOB := hid hob
        simp only [← hob] at HRS ⊢
        clear hob d0 d1 d2 c0
        generalize World.alloc _ _ = w3 at HRS ⊢
        have HN1 := hid (show ∀ i, i < n → chgB W x y z 1 Z i = true → X i = Z i + 1 from fun i hi hc => by rw [HM.out.2.2]; exact chg_one HG.out hx hy hi (.inl rfl) HM.out.1 hc)
        go_loopw [17, 18, 83] (fun lv2 cv iv wr => ∃ (k : Nat) (v1 : Value), k ≤ n ∧ iv = .int .i64 k ∧ cv = .int .i64 ((chs W x y z 1 Z k).length * 250 : Nat) ∧
          Hid (RS B ob W H #[.int .i64 W, .int .i64 H, .slice (some ⟨b, off, none⟩) n cap] v1 lv2 k (chs W x y z 1 Z k).length (ints k X) (encC W X (chs W x y z 1 Z k)) w wr)) (fun _ _ iv _ => n - (intOf iv).toNat)
        case atStart => exact ⟨0, _, Nat.zero_le _, rfl, rfl, HRS⟩
        case round =>
          obtain ⟨k, v1, hk, rfl, rfl, hR⟩ := hrel
          clear HRS
          have d0 : wr.cell? ⟨B, 0, none⟩ = some (.int .i64 W) := cell_of_row wr B 0 _ _ _ hR.out.hb
          have d1 : wr.cell? ⟨B, 1, none⟩ = some (.int .i64 H) := cell_of_row wr B 1 _ _ _ hR.out.hb
          have d2 : wr.cell? ⟨B, 2, none⟩ = some (.slice (some ⟨b, off, none⟩) n cap) := cell_of_row wr B 2 _ _ _ hR.out.hb
          have o2 : wr.cell? ⟨ob, 2, none⟩ = some v1 := cell_of_row wr ob 2 _ _ _ hR.out.ho
          have hBz := heap_lt hR.out.hb
          have hoz := heap_lt hR.out.ho
          have hlc := chs_le W x y z 1 Z k
          by_cases hkn : k < n
          · obtain ⟨cx, hcx⟩ : ∃ c, c = k % (W + 1) := ⟨_, rfl⟩
            obtain ⟨cy, hcy⟩ : ∃ c, c = k / (W + 1) := ⟨_, rfl⟩
            have hcxl : cx < W + 1 := by rw [hcx]; exact Nat.mod_lt _ (by omega)
            have hcyl : cy < H + 1 := by rw [hcy]; exact HG.out.row_lt hkn
            have e2 : (k : Int) % ((W : Int) + 1) = (cx : Int) := by rw [hcx, Int.natCast_emod]; rfl
            have e3 : (k : Int) / ((W : Int) + 1) = (cy : Int) := by rw [hcy, Int.natCast_ediv]; rfl
            have w1 : IntKind.i64.wrap (cy : Int) = (cy : Int) := by rw [IntKind.wrap_i64]; omega
            obtain ⟨t1, t2⟩ := dist_small (a := x) (b := cx) (c := 40) (by omega) (by omega)
            obtain ⟨t3, t4⟩ := dist_small (a := y) (b := cy) (c := 40) (by omega) (by omega)
            have hfar : far W x y k = dist x cx + dist y cy := by unfold far; rw [← hcx, ← hcy, dist_comm, dist_comm (cy : Int)]
            obtain ⟨o1, ho1⟩ : ∃ o, o = Z k := ⟨_, rfl⟩
            have q0 := (hR.out.below.cell (p := ⟨b, off + k, none⟩) (by rw [HBB.out]; exact hbw)).trans (HC.out k hkn)
            rw [← ho1] at q0
            have hok := HG.out.high k hkn
            rw [← ho1] at hok
            have hbzr : b < wr.heap.size := Nat.lt_of_lt_of_le hbw hR.out.below.size
            obtain ⟨bb, hbb⟩ : ∃ bb, z - (dist (x : Int) cx + dist (y : Int) cy) = bb := ⟨_, rfl⟩
            have hlc2 : (chs W x y z 1 Z k).length ≤ 1089 := by omega
            have HLB : Hid ((chs W x y z 1 Z k).length ≤ 1089) := hid hlc2
            obtain ⟨lc, hlcc⟩ : ∃ lc, lc = (chs W x y z 1 Z k).length := ⟨_, rfl⟩
            cases hc : chgB W x y z 1 Z k with
            | true =>
              have hX1 := HN1.out k hkn hc
              have hX2 : X k = bb := by rw [HM.out.2.2, newZ_up, if_pos (chg_up.1 hc), hfar, hbb]
              have hlt1 : o1 < bb := by rw [← hX2, hX1, ← ho1]; omega
              have hbb2 : bb ≤ 16 := by omega
              have hdd : dist bb o1 = 1 := by rw [← hX2, hX1, ← ho1]; unfold dist; split <;> omega
              have HX := hid (And.intro hX2 (And.intro hc hdd))
              have HF := hid (And.intro hcx hcy)
              clear hX1 hX2 hc hdd hcx hcy ho1 hfar hlc
              rw [← hlcc] at hlc2 ⊢
              have HLC := hid hlcc
              clear hlcc
              go_wp2_with fail
              go_quiet (fail)
              have HRA := hid ((hR.out.stays (Joins.below_draws _ wr nq)).stays (Joins.below_alloc1 (wr.drewN nq) (.cells #[.int .i64 bb] 3)))
              go_wp2_with (first
                | (go_at_call 47; refine (apart_any _ _ (by omega) (by omega) (by omega) (by omega) _).mono ?_; rintro e w' ⟨rfl, rfl⟩)
                | (at_builtin; refine wpList_append_own _ rfl _ _ 22 rfl (ob + 1) 3 i0 (.int .i64 0) 1 8 Try.underlying22 HIN.out.1 HIN.out.2.1 HIN.out.2.2.1 HIN.out.2.2.2 rfl (by decide) _ _ _ rfl (HRA.out.r1) ⟨wr.heap.size, 0, none⟩ 1 1 [.int .i64 bb] rfl rfl (World.news_of_block (heap_alloc_new (wr.drewN nq) (.cells #[.int .i64 bb] 3))) (by intro u hu; simp at hu; subst hu; rfl) (by unfold maxLen; omega) (by omega) (by simp; omega) ?_))
              intro v' w4 hown hgrow _
              obtain ⟨g', cap', rfl, hg', hg''⟩ := hown.form (by omega)
              have hR4 := HRA.out.app1 hgrow hown
              rw [show ints k X ++ [Value.int .i64 bb] = ints (k + 1) X by rw [ints_succ, HX.out.1]] at hR4
              have HR4 := hid hR4
              have m2 : w4.cell? ⟨ob, 2, none⟩ = some v1 := by
                have := (hgrow.block ob (by simp; omega) (fun e => by have := row_own HRA.out.r1 ob e.symm; omega)).trans HRA.out.ho
                exact cell_of_row w4 ob 2 _ _ _ this
              have mf : w4.frozen? ⟨ob, 2, none⟩ = false := by
                have := (hgrow.block ob (by simp; omega) (fun e => by have := row_own HRA.out.r1 ob e.symm; omega)).trans HRA.out.ho
                exact frozen_of_row w4 ob 2 _ _ this
              have hz4 : ob < w4.heap.size := by have := heap_lt hR4.ho; rwa [World.size_setCell] at this
              clear hown hgrow hR4 HRA hR d0 d1 d2 o2 q0
              have hne : (bb != o1) = true := by simp; omega
              have hlc5 : chs W x y z 1 Z (k + 1) = chs W x y z 1 Z k ++ [k] := chs_yes HX.out.2.1
              have HR5 := hid (HR4.out.stays (Joins.below_alloc1 (w4.setCell ⟨ob, 2, none⟩ (.slice (some ⟨g', 0, none⟩) (k + 1) cap')) (.cells #[.int .i64 cx, .int .i64 cy, .int .i64 bb] 53)))
              have hnews : ∀ j u, ([Value.int .i64 cx, .int .i64 cy, .int .i64 bb] : List Value)[j]? = some u → ((w4.setCell ⟨ob, 2, none⟩ (.slice (some ⟨g', 0, none⟩) (k + 1) cap')).alloc (.cells #[.int .i64 cx, .int .i64 cy, .int .i64 bb] 53)).cell? ((⟨w4.heap.size, 0, none⟩ : Addr).add j) = some u := by
                have := World.news_of_block (heap_alloc_new (w4.setCell ⟨ob, 2, none⟩ (.slice (some ⟨g', 0, none⟩) (k + 1) cap')) (.cells #[.int .i64 cx, .int .i64 cy, .int .i64 bb] 53))
                rwa [World.size_setCell] at this
              have HNW := hid hnews
              have HL5 := hid hlc5
              have hbb0 : 0 ≤ bb := by omega
              clear hnews hlc5
              go_wp2_with (at_builtin; refine wpList_append_own _ rfl _ _ 48 rfl (ob + 1) 53 i5 (.agg #[.int .i64 0, .int .i64 0, .int .i64 0]) 3 24 Try.underlying48 HIC.out.1 HIC.out.2.1 HIC.out.2.2.1 HIC.out.2.2.2 rfl (by decide) _ _ _ rfl (HR5.out.r2) ⟨w4.heap.size, 0, none⟩ 1 1 [.int .i64 cx, .int .i64 cy, .int .i64 bb] rfl rfl HNW.out (by intro u hu; simp at hu; rcases hu with rfl | rfl | rfl <;> rfl) (by have := HLB.out; unfold maxLen; omega) (by have := HLB.out; omega) (by simp; omega) ?_)
              intro v'' w6 hown hgrow _
              have hR6 := HR5.out.app2 hgrow hown
              have ee : encC W X (chs W x y z 1 Z k) ++ [Value.int .i64 cx, .int .i64 cy, .int .i64 bb] = encC W X (chs W x y z 1 Z (k + 1)) := by
                rw [HL5.out, encC_snoc]; unfold cc; rw [← HF.out.1, ← HF.out.2, HX.out.1]
              have el : (chs W x y z 1 Z k).length + 1 = (chs W x y z 1 Z (k + 1)).length := by rw [HL5.out]; simp
              rw [ee, el] at hR6
              have HR6 := hid hR6
              have HEL := hid el
              clear hown hgrow hR6 HR5 HR4 ee el m2 mf HNW
              go_wp2_with (go_at_call 47; refine (apart_any _ _ (by omega) (by omega) (by omega) (by omega) _).mono ?_; rw [HX.out.2.2]; rintro e w' ⟨rfl, rfl⟩)
              go_roundw
              case rel => exact ⟨k + 1, _, by omega, by go_num, by congr 1; have := HEL.out; have := HLC.out; omega, HR6⟩
              case measure => simp [intOf]; omega
            | false =>
              have hX2 : X k = o1 := by rw [HM.out.2.2, newZ_up, if_neg (fun h => by rw [chg_up.2 h] at hc; cases hc), ho1]
              have hno : ¬ Z k < z - far W x y k := fun h => by rw [chg_up.2 h] at hc; cases hc
              rw [hfar, hbb, ← ho1] at hno
              have hlt1 : bb ≤ o1 := by omega
              clear hno
              have hbb2 : -100 ≤ bb := by omega
              have HX := hid (And.intro hX2 hc)
              clear hX2 hc hcx hcy ho1 hfar hlc
              rw [← hlcc] at hlc2 ⊢
              have HLC := hid hlcc
              clear hlcc
              go_wp2_with fail
              go_quiet (fail)
              have HRA := hid ((hR.out.stays (Joins.below_draws _ wr nq)).stays (Joins.below_alloc1 (wr.drewN nq) (.cells #[.int .i64 o1] 3)))
              go_wp2_with (first
                | (go_at_call 47; refine (apart_any _ _ (by omega) (by omega) (by omega) (by omega) _).mono ?_; rintro e w' ⟨rfl, rfl⟩)
                | (at_builtin; refine wpList_append_own _ rfl _ _ 22 rfl (ob + 1) 3 i0 (.int .i64 0) 1 8 Try.underlying22 HIN.out.1 HIN.out.2.1 HIN.out.2.2.1 HIN.out.2.2.2 rfl (by decide) _ _ _ rfl (HRA.out.r1) ⟨wr.heap.size, 0, none⟩ 1 1 [.int .i64 o1] rfl rfl (World.news_of_block (heap_alloc_new (wr.drewN nq) (.cells #[.int .i64 o1] 3))) (by intro u hu; simp at hu; subst hu; rfl) (by unfold maxLen; omega) (by omega) (by simp; omega) ?_))
              intro v' w4 hown hgrow _
              obtain ⟨g', cap', rfl, hg', hg''⟩ := hown.form (by omega)
              have hR4 := HRA.out.app1 hgrow hown
              rw [show ints k X ++ [Value.int .i64 o1] = ints (k + 1) X by rw [ints_succ, HX.out.1]] at hR4
              have HR4 := hid hR4
              have m2 : w4.cell? ⟨ob, 2, none⟩ = some v1 := by
                have := (hgrow.block ob (by simp; omega) (fun e => by have := row_own HRA.out.r1 ob e.symm; omega)).trans HRA.out.ho
                exact cell_of_row w4 ob 2 _ _ _ this
              have mf : w4.frozen? ⟨ob, 2, none⟩ = false := by
                have := (hgrow.block ob (by simp; omega) (fun e => by have := row_own HRA.out.r1 ob e.symm; omega)).trans HRA.out.ho
                exact frozen_of_row w4 ob 2 _ _ this
              have hz4 : ob < w4.heap.size := by have := heap_lt hR4.ho; rwa [World.size_setCell] at this
              have hlc5 : chs W x y z 1 Z (k + 1) = chs W x y z 1 Z k := chs_no HX.out.2
              have HL5 := hid hlc5
              clear hown hgrow hR4 HRA hR d0 d1 d2 o2 q0 hlc5
              go_wp2_with fail
              go_roundw
              case rel => exact ⟨k + 1, _, by omega, by go_num, by rw [HL5.out, HLC.out]; simp, hid (by rw [HL5.out]; exact HR4.out)⟩
              case measure => simp [intOf]; omega
          · obtain rfl : n = k := by omega
            rw [← HM.out.2.1] at hR hlc ⊢
            obtain ⟨ct, hct⟩ : ∃ ct : Int, ct = ((L.length * 250 : Nat) : Int) := ⟨_, rfl⟩
            rw [← hct]
            have HCT := hid hct
            clear hct
            have hpos : 0 < L.length := List.length_pos_of_mem (by rw [HM.out.2.1, HM.out.1]; exact self_chg HG.out hx hy HW.out.s)
            obtain ⟨gl, capl, rfl, hgl, hgl'⟩ := hR.out.r2.form hpos
            obtain ⟨g1, cap1, rfl, hg1, hg1'⟩ := hR.out.r1.form (by omega)
            have HLN := hid (show ∀ i ∈ L, i < n from fun i hi => by rw [HM.out.2.1, mem_chs] at hi; exact hi.1)
            have hR0 := hid (And.intro hR.out (show ∀ q, q < 0 → heldB W H T m (L.getD q 0) = false from fun q hq => absurd hq (Nat.not_lt_zero q)))
            clear hR d0 d1 d2 o2
            go_wp2_with fail
            go_loopw [142] (fun iv wr => ∃ j : Nat, j ≤ L.length ∧ iv = .int .i64 j ∧
              Hid (RS B ob W H #[.int .i64 W, .int .i64 H, .slice (some ⟨b, off, none⟩) n cap] (.slice (some ⟨g1, 0, none⟩) n cap1) (.slice (some ⟨gl, 0, none⟩) L.length capl) n L.length (ints n X) (encC W X L) w wr ∧ ∀ q, q < j → heldB W H T m (L.getD q 0) = false)) (fun iv _ => L.length - (intOf iv).toNat)
            case atStart => exact ⟨0, Nat.zero_le _, rfl, hR0⟩
            case round =>
              obtain ⟨j, hj, rfl, hR⟩ := hrel
              clear hR0
              have hglz := (hR.out.1.r2.lt gl rfl).2
              by_cases hjl : j < L.length
              · obtain ⟨i, hi'⟩ : ∃ i, i = L.getD j 0 := ⟨_, rfl⟩
                have hil : i ∈ L := by rw [hi']; simp [hjl]
                have hin : i < n := HLN.out i hil
                obtain ⟨xi, hxi⟩ : ∃ q, q = i % (W + 1) := ⟨_, rfl⟩
                obtain ⟨yi, hyi⟩ : ∃ q, q = i / (W + 1) := ⟨_, rfl⟩
                obtain ⟨p, hp⟩ : ∃ p, p = yi * (W + 1) := ⟨_, rfl⟩
                have e2 : (yi : Int) * ((W : Int) + 1) = (p : Int) := by rw [hp]; simp
                have hpi : p + xi = i := by rw [hp, hyi, hxi]; exact (at_split W i).symm
                have hyn : yi ≤ 1089 := by rw [hyi]; exact Nat.le_trans (Nat.div_le_self _ _) (by omega)
                have hg3 := encC_get (W := W) (Y := X) hjl
                rw [← hi', ← hxi, ← hyi] at hg3
                have q0 := (hR.out.1.r2.cellAt (j * 3) (by omega)).trans hg3.1
                have q1 := (hR.out.1.r2.cellAt (j * 3 + 1) (by omega)).trans hg3.2.1
                have q2 := (hR.out.1.r2.cellAt (j * 3 + 2) (by omega)).trans hg3.2.2
                obtain ⟨xv, hxv⟩ : ∃ v, v = X i := ⟨_, rfl⟩
                rw [← hxv] at q2
                have d0 : wr.cell? ⟨B, 0, none⟩ = some (.int .i64 W) := cell_of_row wr B 0 _ _ _ hR.out.1.hb
                have d1 : wr.cell? ⟨B, 1, none⟩ = some (.int .i64 H) := cell_of_row wr B 1 _ _ _ hR.out.1.hb
                have d2 : wr.cell? ⟨B, 2, none⟩ = some (.slice (some ⟨b, off, none⟩) n cap) := cell_of_row wr B 2 _ _ _ hR.out.1.hb
                have hBz := heap_lt hR.out.1.hb
                have HS5 := hid (hR.out.1.stays (Joins.below_alloc1 wr (.cells #[.int .i64 xi, .int .i64 yi, .int .i64 xv] 53)))
                have HI5 : Hid (Ints (wr.alloc (.cells #[.int .i64 xi, .int .i64 yi, .int .i64 xv] 53)) (some ⟨b, off, none⟩) n Z) := hid (by
                  have := HS5.out.below; rw [HBB.out] at this; exact HI0.out.stays this)
                have HT5 : Hid (Ints (wr.alloc (.cells #[.int .i64 xi, .int .i64 yi, .int .i64 xv] 53)) bo m T) := hid (by
                  have := HS5.out.below; rw [HBB.out] at this; exact HT0.out.stays this)
                have hpn : p + xi < n := by omega
                have HPI := hid hpi
                have HIL := hid (And.intro hil hi')
                clear hi' hil hin hxi hyi hp hg3 hxv hpi
                obtain ⟨ri, hri⟩ : ∃ r, r = heldB W H T m i := ⟨_, rfl⟩
                have HRI := hid hri
                clear hri
                cases ri with
                | true =>
                  go_wp2_with fail
                  rw [show (p : Int) + (xi : Int) = ((i : Nat) : Int) by rw [← HPI.out]; simp]
                  refine (held_any W H _ n cap Z HG.out i bo m cap2 hm T _ HI5.out HT5.out).mono ?_
                  rw [← HRI.out]
                  rintro e w5 ⟨rfl, hb5⟩
                  have HS6 := hid (HS5.out.stays hb5)
                  have hr := HS6.out.hr
                  have r0 : w5.cell? ⟨B + 1, 0, none⟩ = some (.int .i64 0) := cell_of_row w5 (B + 1) 0 _ _ _ hr
                  have r1 : w5.cell? ⟨B + 1, 1, none⟩ = some (.int .i64 0) := cell_of_row w5 (B + 1) 1 _ _ _ hr
                  have r2 : w5.cell? ⟨B + 1, 2, none⟩ = some (.slice none 0 0) := cell_of_row w5 (B + 1) 2 _ _ _ hr
                  have f0 : w5.frozen? ⟨B + 1, 0, none⟩ = false := frozen_of_row w5 (B + 1) 0 _ _ hr
                  have f1 : w5.frozen? ⟨B + 1, 1, none⟩ = false := frozen_of_row w5 (B + 1) 1 _ _ hr
                  have f2 : w5.frozen? ⟨B + 1, 2, none⟩ = false := frozen_of_row w5 (B + 1) 2 _ _ hr
                  have hbz := heap_lt hr
                  clear hr hb5 HS5 HI5 HT5 d0 d1 d2 q0 q1 q2
                  go_wp2_with fail
                  have k3 := set3 HS6.out.hr (.int .i64 0) (.int .i64 0) (.slice none 0 0)
                  have k4 := set3_below (g := B + 1) HS6.out.below (Nat.le_succ _) (.int .i64 0) (.int .i64 0) (.slice none 0 0)
                  clear r0 r1 r2 f0 f1 f2
                  generalize World.setCell _ _ _ = w9 at k3 k4 ⊢
                  have q0 := cell_of_row w9 (B + 1) 0 _ _ _ k3
                  have q1 := cell_of_row w9 (B + 1) 1 _ _ _ k3
                  have q2 := cell_of_row w9 (B + 1) 2 _ _ _ k3
                  simp at q0 q1 q2
                  refine bodyPost_ret (v := none4 7) (by simp [results, Try.results35, go_sem, q0, q1, q2]) rfl ⟨by rw [← HBB.out]; exact k4, .inr (.inl ⟨⟨hz1, hz2⟩, ⟨i, HIL.out.1, HRI.out.symm⟩, rfl⟩)⟩
                | false =>
                  go_wp2_with fail
                  rw [show (p : Int) + (xi : Int) = ((i : Nat) : Int) by rw [← HPI.out]; simp]
                  refine (held_any W H _ n cap Z HG.out i bo m cap2 hm T _ HI5.out HT5.out).mono ?_
                  rw [← HRI.out]
                  rintro e w5 ⟨rfl, hb5⟩
                  have hnx : Hid (∀ q, q < j + 1 → heldB W H T m (L.getD q 0) = false) := hid (fun q hq => by
                    by_cases h : q < j
                    · exact hR.out.2 q h
                    · obtain rfl : q = j := by omega
                      rw [← HIL.out.2]; exact HRI.out.symm)
                  have HS6 := hid (HS5.out.stays hb5)
                  clear hb5
                  go_wp2_with fail
                  go_roundw
                  case rel => exact ⟨j + 1, by omega, by go_num, hid ⟨HS6.out, hnx.out⟩⟩
                  case measure => simp [intOf]; omega
              · obtain rfl : j = L.length := by omega
                have HS6 := hid hR.out.1
                have HNF := hid hR.out.2
                have t0 : wr.cell? ⟨ob, 0, none⟩ = some (.int .i64 W) := cell_of_row wr ob 0 _ _ _ HS6.out.ho
                have t1 : wr.cell? ⟨ob, 1, none⟩ = some (.int .i64 H) := cell_of_row wr ob 1 _ _ _ HS6.out.ho
                have t2 : wr.cell? ⟨ob, 2, none⟩ = some (.slice (some ⟨g1, 0, none⟩) n cap1) := cell_of_row wr ob 2 _ _ _ HS6.out.ho
                have hr := HS6.out.hr
                have r0 : wr.cell? ⟨B + 1, 0, none⟩ = some (.int .i64 0) := cell_of_row wr (B + 1) 0 _ _ _ hr
                have r1 : wr.cell? ⟨B + 1, 1, none⟩ = some (.int .i64 0) := cell_of_row wr (B + 1) 1 _ _ _ hr
                have r2 : wr.cell? ⟨B + 1, 2, none⟩ = some (.slice none 0 0) := cell_of_row wr (B + 1) 2 _ _ _ hr
                have f0 : wr.frozen? ⟨B + 1, 0, none⟩ = false := frozen_of_row wr (B + 1) 0 _ _ hr
                have f1 : wr.frozen? ⟨B + 1, 1, none⟩ = false := frozen_of_row wr (B + 1) 1 _ _ hr
                have f2 : wr.frozen? ⟨B + 1, 2, none⟩ = false := frozen_of_row wr (B + 1) 2 _ _ hr
                have hbz := heap_lt hr
                have hlt2 := HS6.out.lt
                clear hr hR
                go_wp2_with fail
                have k3 := set3 HS6.out.hr (.int .i64 W) (.int .i64 H) (.slice (some ⟨g1, 0, none⟩) n cap1)
                have k4 := set3_below (g := B + 1) HS6.out.below (Nat.le_succ _) (.int .i64 W) (.int .i64 H) (.slice (some ⟨g1, 0, none⟩) n cap1)
                have k5 := (set3_row (g := B + 1) (HS6.out.r2.mono' (base' := w.heap.size) (by rw [← HBB.out]; omega)) (by simp [Value.ownBlock]; omega) (.int .i64 W) (.int .i64 H) (.slice (some ⟨g1, 0, none⟩) n cap1))
                have k6 := (set3_row (g := B + 1) (HS6.out.r1.mono' (base' := w.heap.size) (by rw [← HBB.out]; omega)) (by simp [Value.ownBlock]; omega) (.int .i64 W) (.int .i64 H) (.slice (some ⟨g1, 0, none⟩) n cap1))
                clear r0 r1 r2 f0 f1 f2 t0 t1 t2
                generalize World.setCell _ _ _ = w6 at k3 k4 k5 k6 ⊢
                have q0 := cell_of_row w6 (B + 1) 0 _ _ _ k3
                have q1 := cell_of_row w6 (B + 1) 1 _ _ _ k3
                have q2 := cell_of_row w6 (B + 1) 2 _ _ _ k3
                simp at q0 q1 q2
                refine bodyPost_ret (v := .tuple #[lv W H (.slice (some ⟨g1, 0, none⟩) n cap1), .slice (some ⟨gl, 0, none⟩) L.length capl, .int .i64 ct, .int .i64 0]) (by simp [results, Try.results35, go_sem, q0, q1, q2]) rfl ⟨by rw [← HBB.out]; exact k4, .inr (.inr ⟨⟨hz1, hz2⟩, fun i hi => ?_, g1, cap1, _, by rw [HCT.out], k5, k6⟩)⟩
                obtain ⟨q, hq, rfl⟩ := List.getElem_of_mem hi
                have := HNF.out q hq
                simpa [hq] using this
      · have HZ := hid hzz
        by_cases e0 : z < 0
        all_goals first
          | (exfalso; omega)
          | (have e1' : 0 ≤ z → 15 < z := fun h => by have := HZ.out; omega
             have hr := H2.out.hr
             have r0 : w2.cell? ⟨B + 1, 0, none⟩ = some (.int .i64 0) := cell_of_row w2 (B + 1) 0 _ _ _ hr
             have r1 : w2.cell? ⟨B + 1, 1, none⟩ = some (.int .i64 0) := cell_of_row w2 (B + 1) 1 _ _ _ hr
             have r2 : w2.cell? ⟨B + 1, 2, none⟩ = some (.slice none 0 0) := cell_of_row w2 (B + 1) 2 _ _ _ hr
             have f0 : w2.frozen? ⟨B + 1, 0, none⟩ = false := frozen_of_row w2 (B + 1) 0 _ _ hr
             have f1 : w2.frozen? ⟨B + 1, 1, none⟩ = false := frozen_of_row w2 (B + 1) 1 _ _ hr
             have f2 : w2.frozen? ⟨B + 1, 2, none⟩ = false := frozen_of_row w2 (B + 1) 2 _ _ hr
             have hbz := heap_lt hr
             clear hr hzz
             go_wp2_with fail
             have k3 := set3 H2.out.hr (.int .i64 0) (.int .i64 0) (.slice none 0 0)
             have k4 := set3_below (g := B + 1) H2.out.below (Nat.le_succ _) (.int .i64 0) (.int .i64 0) (.slice none 0 0)
             clear r0 r1 r2 f0 f1 f2
             generalize World.setCell _ _ _ = w9 at k3 k4 ⊢
             have q0 := cell_of_row w9 (B + 1) 0 _ _ _ k3
             have q1 := cell_of_row w9 (B + 1) 1 _ _ _ k3
             have q2 := cell_of_row w9 (B + 1) 2 _ _ _ k3
             simp at q0 q1 q2
             refine bodyPost_ret (v := none4 6) (by simp [results, Try.results35, go_sem, q0, q1, q2]) rfl ⟨by rw [← HBB.out]; exact k4, .inl ⟨HZ.out, rfl⟩⟩)
    · go_enter Try.func35, Try.ntmps35
      go_wp2_with fail
      refine (refvalidate_any W H _ n cap Z (by omega) _ HI.out 0 HE.out).mono ?_
      rintro r w2 ⟨rfl, hb2⟩
      have H2 := hid (HST.out.stays hb2)
      have HI2 := hid (HI.out.stays hb2)
      have HT2 := hid (HTT.out.stays hb2)
      have c0 := ((HST.out.below.trans (hb2.mono (by simp; omega))).cell (p := ⟨b, off + (a + x), none⟩) hbw).trans (HC.out _ hlt)
      have hbz2 : b < w2.heap.size := Nat.lt_of_lt_of_le hbw H2.out.below.size
      obtain ⟨z0, hz0⟩ : ∃ z0, z0 = Z (a + x) := ⟨_, rfl⟩
      rw [← hz0] at c0 hi
      have ez' : z0 - 1 = z := by have := HM.out.1; rw [← HA.out, ← hz0] at this; omega
      obtain ⟨B, hB⟩ : ∃ B, B = w.heap.size := ⟨_, rfl⟩
      have HBB := hid hB
      have HZ0 := hid hz0
      simp only [← hB] at H2 ⊢
      clear hB hz0
      have d0 : w2.cell? ⟨B, 0, none⟩ = some (.int .i64 W) := cell_of_row w2 B 0 _ _ _ H2.out.hb
      have d1 : w2.cell? ⟨B, 1, none⟩ = some (.int .i64 H) := cell_of_row w2 B 1 _ _ _ H2.out.hb
      have d2 : w2.cell? ⟨B, 2, none⟩ = some (.slice (some ⟨b, off, none⟩) n cap) := cell_of_row w2 B 2 _ _ _ H2.out.hb
      have hBz : B < w2.heap.size := heap_lt H2.out.hb
      clear hb2
      by_cases hzz : 0 ≤ z ∧ z ≤ 15
      · obtain ⟨hz1, hz2⟩ := hzz
        go_wp2_with fail
        have HRS := hid (rs_start w w2 B W H _ H2.out)
        obtain ⟨ob, hob⟩ : ∃ ob, ob = w2.heap.size := ⟨_, rfl⟩
        have HOB := hid hob
        simp only [← hob] at HRS ⊢
        clear hob d0 d1 d2 c0
        generalize World.alloc _ _ = w3 at HRS ⊢
        have HN1 := hid (show ∀ i, i < n → chgB W x y z (-1) Z i = true → X i = Z i + -1 from fun i hi hc => by rw [HM.out.2.2]; exact chg_one HG.out hx hy hi (.inr rfl) HM.out.1 hc)
        go_loopw [17, 18, 83] (fun lv2 cv iv wr => ∃ (k : Nat) (v1 : Value), k ≤ n ∧ iv = .int .i64 k ∧ cv = .int .i64 ((chs W x y z (-1) Z k).length * 250 : Nat) ∧
          Hid (RS B ob W H #[.int .i64 W, .int .i64 H, .slice (some ⟨b, off, none⟩) n cap] v1 lv2 k (chs W x y z (-1) Z k).length (ints k X) (encC W X (chs W x y z (-1) Z k)) w wr)) (fun _ _ iv _ => n - (intOf iv).toNat)
        case atStart => exact ⟨0, _, Nat.zero_le _, rfl, rfl, HRS⟩
        case round =>
          obtain ⟨k, v1, hk, rfl, rfl, hR⟩ := hrel
          clear HRS
          have d0 : wr.cell? ⟨B, 0, none⟩ = some (.int .i64 W) := cell_of_row wr B 0 _ _ _ hR.out.hb
          have d1 : wr.cell? ⟨B, 1, none⟩ = some (.int .i64 H) := cell_of_row wr B 1 _ _ _ hR.out.hb
          have d2 : wr.cell? ⟨B, 2, none⟩ = some (.slice (some ⟨b, off, none⟩) n cap) := cell_of_row wr B 2 _ _ _ hR.out.hb
          have o2 : wr.cell? ⟨ob, 2, none⟩ = some v1 := cell_of_row wr ob 2 _ _ _ hR.out.ho
          have hBz := heap_lt hR.out.hb
          have hoz := heap_lt hR.out.ho
          have hlc := chs_le W x y z (-1) Z k
          by_cases hkn : k < n
          · obtain ⟨cx, hcx⟩ : ∃ c, c = k % (W + 1) := ⟨_, rfl⟩
            obtain ⟨cy, hcy⟩ : ∃ c, c = k / (W + 1) := ⟨_, rfl⟩
            have hcxl : cx < W + 1 := by rw [hcx]; exact Nat.mod_lt _ (by omega)
            have hcyl : cy < H + 1 := by rw [hcy]; exact HG.out.row_lt hkn
            have e2 : (k : Int) % ((W : Int) + 1) = (cx : Int) := by rw [hcx, Int.natCast_emod]; rfl
            have e3 : (k : Int) / ((W : Int) + 1) = (cy : Int) := by rw [hcy, Int.natCast_ediv]; rfl
            have w1 : IntKind.i64.wrap (cy : Int) = (cy : Int) := by rw [IntKind.wrap_i64]; omega
            obtain ⟨t1, t2⟩ := dist_small (a := x) (b := cx) (c := 40) (by omega) (by omega)
            obtain ⟨t3, t4⟩ := dist_small (a := y) (b := cy) (c := 40) (by omega) (by omega)
            have hfar : far W x y k = dist x cx + dist y cy := by unfold far; rw [← hcx, ← hcy, dist_comm, dist_comm (cy : Int)]
            obtain ⟨o1, ho1⟩ : ∃ o, o = Z k := ⟨_, rfl⟩
            have q0 := (hR.out.below.cell (p := ⟨b, off + k, none⟩) (by rw [HBB.out]; exact hbw)).trans (HC.out k hkn)
            rw [← ho1] at q0
            have hok := HG.out.high k hkn
            rw [← ho1] at hok
            have hbzr : b < wr.heap.size := Nat.lt_of_lt_of_le hbw hR.out.below.size
            obtain ⟨bb, hbb⟩ : ∃ bb, z + (dist (x : Int) cx + dist (y : Int) cy) = bb := ⟨_, rfl⟩
            have hlc2 : (chs W x y z (-1) Z k).length ≤ 1089 := by omega
            have HLB : Hid ((chs W x y z (-1) Z k).length ≤ 1089) := hid hlc2
            obtain ⟨lc, hlcc⟩ : ∃ lc, lc = (chs W x y z (-1) Z k).length := ⟨_, rfl⟩
            cases hc : chgB W x y z (-1) Z k with
            | true =>
              have hX1 := HN1.out k hkn hc
              have hX2 : X k = bb := by rw [HM.out.2.2, newZ_dn, if_pos (chg_dn.1 hc), hfar, hbb]
              have hlt1 : bb < o1 := by rw [← hX2, hX1, ← ho1]; omega
              have hbb2 : -1 ≤ bb := by rw [← hX2, hX1, ← ho1]; omega
              have hdd : dist bb o1 = 1 := by rw [← hX2, hX1, ← ho1]; unfold dist; split <;> omega
              have HX := hid (And.intro hX2 (And.intro hc hdd))
              have HF := hid (And.intro hcx hcy)
              clear hX1 hX2 hc hdd hcx hcy ho1 hfar hlc
              rw [← hlcc] at hlc2 ⊢
              have HLC := hid hlcc
              clear hlcc
              go_wp2_with fail
              go_quiet (fail)
              have HRA := hid ((hR.out.stays (Joins.below_draws _ wr nq)).stays (Joins.below_alloc1 (wr.drewN nq) (.cells #[.int .i64 bb] 3)))
              go_wp2_with (first
                | (go_at_call 47; refine (apart_any _ _ (by omega) (by omega) (by omega) (by omega) _).mono ?_; rintro e w' ⟨rfl, rfl⟩)
                | (at_builtin; refine wpList_append_own _ rfl _ _ 22 rfl (ob + 1) 3 i0 (.int .i64 0) 1 8 Try.underlying22 HIN.out.1 HIN.out.2.1 HIN.out.2.2.1 HIN.out.2.2.2 rfl (by decide) _ _ _ rfl (HRA.out.r1) ⟨wr.heap.size, 0, none⟩ 1 1 [.int .i64 bb] rfl rfl (World.news_of_block (heap_alloc_new (wr.drewN nq) (.cells #[.int .i64 bb] 3))) (by intro u hu; simp at hu; subst hu; rfl) (by unfold maxLen; omega) (by omega) (by simp; omega) ?_))
              intro v' w4 hown hgrow _
              obtain ⟨g', cap', rfl, hg', hg''⟩ := hown.form (by omega)
              have hR4 := HRA.out.app1 hgrow hown
              rw [show ints k X ++ [Value.int .i64 bb] = ints (k + 1) X by rw [ints_succ, HX.out.1]] at hR4
              have HR4 := hid hR4
              have m2 : w4.cell? ⟨ob, 2, none⟩ = some v1 := by
                have := (hgrow.block ob (by simp; omega) (fun e => by have := row_own HRA.out.r1 ob e.symm; omega)).trans HRA.out.ho
                exact cell_of_row w4 ob 2 _ _ _ this
              have mf : w4.frozen? ⟨ob, 2, none⟩ = false := by
                have := (hgrow.block ob (by simp; omega) (fun e => by have := row_own HRA.out.r1 ob e.symm; omega)).trans HRA.out.ho
                exact frozen_of_row w4 ob 2 _ _ this
              have hz4 : ob < w4.heap.size := by have := heap_lt hR4.ho; rwa [World.size_setCell] at this
              clear hown hgrow hR4 HRA hR d0 d1 d2 o2 q0
              have hne : (bb != o1) = true := by simp; omega
              have hlc5 : chs W x y z (-1) Z (k + 1) = chs W x y z (-1) Z k ++ [k] := chs_yes HX.out.2.1
              have HR5 := hid (HR4.out.stays (Joins.below_alloc1 (w4.setCell ⟨ob, 2, none⟩ (.slice (some ⟨g', 0, none⟩) (k + 1) cap')) (.cells #[.int .i64 cx, .int .i64 cy, .int .i64 bb] 53)))
              have hnews : ∀ j u, ([Value.int .i64 cx, .int .i64 cy, .int .i64 bb] : List Value)[j]? = some u → ((w4.setCell ⟨ob, 2, none⟩ (.slice (some ⟨g', 0, none⟩) (k + 1) cap')).alloc (.cells #[.int .i64 cx, .int .i64 cy, .int .i64 bb] 53)).cell? ((⟨w4.heap.size, 0, none⟩ : Addr).add j) = some u := by
                have := World.news_of_block (heap_alloc_new (w4.setCell ⟨ob, 2, none⟩ (.slice (some ⟨g', 0, none⟩) (k + 1) cap')) (.cells #[.int .i64 cx, .int .i64 cy, .int .i64 bb] 53))
                rwa [World.size_setCell] at this
              have HNW := hid hnews
              have HL5 := hid hlc5
              clear hnews hlc5
              go_wp2_with (at_builtin; refine wpList_append_own _ rfl _ _ 48 rfl (ob + 1) 53 i5 (.agg #[.int .i64 0, .int .i64 0, .int .i64 0]) 3 24 Try.underlying48 HIC.out.1 HIC.out.2.1 HIC.out.2.2.1 HIC.out.2.2.2 rfl (by decide) _ _ _ rfl (HR5.out.r2) ⟨w4.heap.size, 0, none⟩ 1 1 [.int .i64 cx, .int .i64 cy, .int .i64 bb] rfl rfl HNW.out (by intro u hu; simp at hu; rcases hu with rfl | rfl | rfl <;> rfl) (by have := HLB.out; unfold maxLen; omega) (by have := HLB.out; omega) (by simp; omega) ?_)
              intro v'' w6 hown hgrow _
              have hR6 := HR5.out.app2 hgrow hown
              have ee : encC W X (chs W x y z (-1) Z k) ++ [Value.int .i64 cx, .int .i64 cy, .int .i64 bb] = encC W X (chs W x y z (-1) Z (k + 1)) := by
                rw [HL5.out, encC_snoc]; unfold cc; rw [← HF.out.1, ← HF.out.2, HX.out.1]
              have el : (chs W x y z (-1) Z k).length + 1 = (chs W x y z (-1) Z (k + 1)).length := by rw [HL5.out]; simp
              rw [ee, el] at hR6
              have HR6 := hid hR6
              have HEL := hid el
              clear hown hgrow hR6 HR5 HR4 ee el m2 mf HNW
              go_wp2_with (go_at_call 47; refine (apart_any _ _ (by omega) (by omega) (by omega) (by omega) _).mono ?_; rw [HX.out.2.2]; rintro e w' ⟨rfl, rfl⟩)
              go_roundw
              case rel => exact ⟨k + 1, _, by omega, by go_num, by congr 1; have := HEL.out; have := HLC.out; omega, HR6⟩
              case measure => simp [intOf]; omega
            | false =>
              have hX2 : X k = o1 := by rw [HM.out.2.2, newZ_dn, if_neg (fun h => by rw [chg_dn.2 h] at hc; cases hc), ho1]
              have hno : ¬ z + far W x y k < Z k := fun h => by rw [chg_dn.2 h] at hc; cases hc
              rw [hfar, hbb, ← ho1] at hno
              have hlt1 : o1 ≤ bb := by omega
              clear hno
              have hbb2 : bb ≤ 200 := by omega
              have HX := hid (And.intro hX2 hc)
              clear hX2 hc hcx hcy ho1 hfar hlc
              rw [← hlcc] at hlc2 ⊢
              have HLC := hid hlcc
              clear hlcc
              go_wp2_with fail
              go_quiet (fail)
              have HRA := hid ((hR.out.stays (Joins.below_draws _ wr nq)).stays (Joins.below_alloc1 (wr.drewN nq) (.cells #[.int .i64 o1] 3)))
              go_wp2_with (first
                | (go_at_call 47; refine (apart_any _ _ (by omega) (by omega) (by omega) (by omega) _).mono ?_; rintro e w' ⟨rfl, rfl⟩)
                | (at_builtin; refine wpList_append_own _ rfl _ _ 22 rfl (ob + 1) 3 i0 (.int .i64 0) 1 8 Try.underlying22 HIN.out.1 HIN.out.2.1 HIN.out.2.2.1 HIN.out.2.2.2 rfl (by decide) _ _ _ rfl (HRA.out.r1) ⟨wr.heap.size, 0, none⟩ 1 1 [.int .i64 o1] rfl rfl (World.news_of_block (heap_alloc_new (wr.drewN nq) (.cells #[.int .i64 o1] 3))) (by intro u hu; simp at hu; subst hu; rfl) (by unfold maxLen; omega) (by omega) (by simp; omega) ?_))
              intro v' w4 hown hgrow _
              obtain ⟨g', cap', rfl, hg', hg''⟩ := hown.form (by omega)
              have hR4 := HRA.out.app1 hgrow hown
              rw [show ints k X ++ [Value.int .i64 o1] = ints (k + 1) X by rw [ints_succ, HX.out.1]] at hR4
              have HR4 := hid hR4
              have m2 : w4.cell? ⟨ob, 2, none⟩ = some v1 := by
                have := (hgrow.block ob (by simp; omega) (fun e => by have := row_own HRA.out.r1 ob e.symm; omega)).trans HRA.out.ho
                exact cell_of_row w4 ob 2 _ _ _ this
              have mf : w4.frozen? ⟨ob, 2, none⟩ = false := by
                have := (hgrow.block ob (by simp; omega) (fun e => by have := row_own HRA.out.r1 ob e.symm; omega)).trans HRA.out.ho
                exact frozen_of_row w4 ob 2 _ _ this
              have hz4 : ob < w4.heap.size := by have := heap_lt hR4.ho; rwa [World.size_setCell] at this
              have hlc5 : chs W x y z (-1) Z (k + 1) = chs W x y z (-1) Z k := chs_no HX.out.2
              have HL5 := hid hlc5
              clear hown hgrow hR4 HRA hR d0 d1 d2 o2 q0 hlc5
              go_wp2_with fail
              go_roundw
              case rel => exact ⟨k + 1, _, by omega, by go_num, by rw [HL5.out, HLC.out]; simp, hid (by rw [HL5.out]; exact HR4.out)⟩
              case measure => simp [intOf]; omega
          · obtain rfl : n = k := by omega
            rw [← HM.out.2.1] at hR hlc ⊢
            obtain ⟨ct, hct⟩ : ∃ ct : Int, ct = ((L.length * 250 : Nat) : Int) := ⟨_, rfl⟩
            rw [← hct]
            have HCT := hid hct
            clear hct
            have hpos : 0 < L.length := List.length_pos_of_mem (by rw [HM.out.2.1, HM.out.1]; exact self_chg HG.out hx hy HW.out.s)
            obtain ⟨gl, capl, rfl, hgl, hgl'⟩ := hR.out.r2.form hpos
            obtain ⟨g1, cap1, rfl, hg1, hg1'⟩ := hR.out.r1.form (by omega)
            have HLN := hid (show ∀ i ∈ L, i < n from fun i hi => by rw [HM.out.2.1, mem_chs] at hi; exact hi.1)
            have hR0 := hid (And.intro hR.out (show ∀ q, q < 0 → heldB W H T m (L.getD q 0) = false from fun q hq => absurd hq (Nat.not_lt_zero q)))
            clear hR d0 d1 d2 o2
            go_wp2_with fail
            go_loopw [142] (fun iv wr => ∃ j : Nat, j ≤ L.length ∧ iv = .int .i64 j ∧
              Hid (RS B ob W H #[.int .i64 W, .int .i64 H, .slice (some ⟨b, off, none⟩) n cap] (.slice (some ⟨g1, 0, none⟩) n cap1) (.slice (some ⟨gl, 0, none⟩) L.length capl) n L.length (ints n X) (encC W X L) w wr ∧ ∀ q, q < j → heldB W H T m (L.getD q 0) = false)) (fun iv _ => L.length - (intOf iv).toNat)
            case atStart => exact ⟨0, Nat.zero_le _, rfl, hR0⟩
            case round =>
              obtain ⟨j, hj, rfl, hR⟩ := hrel
              clear hR0
              have hglz := (hR.out.1.r2.lt gl rfl).2
              by_cases hjl : j < L.length
              · obtain ⟨i, hi'⟩ : ∃ i, i = L.getD j 0 := ⟨_, rfl⟩
                have hil : i ∈ L := by rw [hi']; simp [hjl]
                have hin : i < n := HLN.out i hil
                obtain ⟨xi, hxi⟩ : ∃ q, q = i % (W + 1) := ⟨_, rfl⟩
                obtain ⟨yi, hyi⟩ : ∃ q, q = i / (W + 1) := ⟨_, rfl⟩
                obtain ⟨p, hp⟩ : ∃ p, p = yi * (W + 1) := ⟨_, rfl⟩
                have e2 : (yi : Int) * ((W : Int) + 1) = (p : Int) := by rw [hp]; simp
                have hpi : p + xi = i := by rw [hp, hyi, hxi]; exact (at_split W i).symm
                have hyn : yi ≤ 1089 := by rw [hyi]; exact Nat.le_trans (Nat.div_le_self _ _) (by omega)
                have hg3 := encC_get (W := W) (Y := X) hjl
                rw [← hi', ← hxi, ← hyi] at hg3
                have q0 := (hR.out.1.r2.cellAt (j * 3) (by omega)).trans hg3.1
                have q1 := (hR.out.1.r2.cellAt (j * 3 + 1) (by omega)).trans hg3.2.1
                have q2 := (hR.out.1.r2.cellAt (j * 3 + 2) (by omega)).trans hg3.2.2
                obtain ⟨xv, hxv⟩ : ∃ v, v = X i := ⟨_, rfl⟩
                rw [← hxv] at q2
                have d0 : wr.cell? ⟨B, 0, none⟩ = some (.int .i64 W) := cell_of_row wr B 0 _ _ _ hR.out.1.hb
                have d1 : wr.cell? ⟨B, 1, none⟩ = some (.int .i64 H) := cell_of_row wr B 1 _ _ _ hR.out.1.hb
                have d2 : wr.cell? ⟨B, 2, none⟩ = some (.slice (some ⟨b, off, none⟩) n cap) := cell_of_row wr B 2 _ _ _ hR.out.1.hb
                have hBz := heap_lt hR.out.1.hb
                have HS5 := hid (hR.out.1.stays (Joins.below_alloc1 wr (.cells #[.int .i64 xi, .int .i64 yi, .int .i64 xv] 53)))
                have HI5 : Hid (Ints (wr.alloc (.cells #[.int .i64 xi, .int .i64 yi, .int .i64 xv] 53)) (some ⟨b, off, none⟩) n Z) := hid (by
                  have := HS5.out.below; rw [HBB.out] at this; exact HI0.out.stays this)
                have HT5 : Hid (Ints (wr.alloc (.cells #[.int .i64 xi, .int .i64 yi, .int .i64 xv] 53)) bo m T) := hid (by
                  have := HS5.out.below; rw [HBB.out] at this; exact HT0.out.stays this)
                have hpn : p + xi < n := by omega
                have HPI := hid hpi
                have HIL := hid (And.intro hil hi')
                clear hi' hil hin hxi hyi hp hg3 hxv hpi
                obtain ⟨ri, hri⟩ : ∃ r, r = heldB W H T m i := ⟨_, rfl⟩
                have HRI := hid hri
                clear hri
                cases ri with
                | true =>
                  go_wp2_with fail
                  rw [show (p : Int) + (xi : Int) = ((i : Nat) : Int) by rw [← HPI.out]; simp]
                  refine (held_any W H _ n cap Z HG.out i bo m cap2 hm T _ HI5.out HT5.out).mono ?_
                  rw [← HRI.out]
                  rintro e w5 ⟨rfl, hb5⟩
                  have HS6 := hid (HS5.out.stays hb5)
                  have hr := HS6.out.hr
                  have r0 : w5.cell? ⟨B + 1, 0, none⟩ = some (.int .i64 0) := cell_of_row w5 (B + 1) 0 _ _ _ hr
                  have r1 : w5.cell? ⟨B + 1, 1, none⟩ = some (.int .i64 0) := cell_of_row w5 (B + 1) 1 _ _ _ hr
                  have r2 : w5.cell? ⟨B + 1, 2, none⟩ = some (.slice none 0 0) := cell_of_row w5 (B + 1) 2 _ _ _ hr
                  have f0 : w5.frozen? ⟨B + 1, 0, none⟩ = false := frozen_of_row w5 (B + 1) 0 _ _ hr
                  have f1 : w5.frozen? ⟨B + 1, 1, none⟩ = false := frozen_of_row w5 (B + 1) 1 _ _ hr
                  have f2 : w5.frozen? ⟨B + 1, 2, none⟩ = false := frozen_of_row w5 (B + 1) 2 _ _ hr
                  have hbz := heap_lt hr
                  clear hr hb5 HS5 HI5 HT5 d0 d1 d2 q0 q1 q2
                  go_wp2_with fail
                  have k3 := set3 HS6.out.hr (.int .i64 0) (.int .i64 0) (.slice none 0 0)
                  have k4 := set3_below (g := B + 1) HS6.out.below (Nat.le_succ _) (.int .i64 0) (.int .i64 0) (.slice none 0 0)
                  clear r0 r1 r2 f0 f1 f2
                  generalize World.setCell _ _ _ = w9 at k3 k4 ⊢
                  have q0 := cell_of_row w9 (B + 1) 0 _ _ _ k3
                  have q1 := cell_of_row w9 (B + 1) 1 _ _ _ k3
                  have q2 := cell_of_row w9 (B + 1) 2 _ _ _ k3
                  simp at q0 q1 q2
                  refine bodyPost_ret (v := none4 7) (by simp [results, Try.results35, go_sem, q0, q1, q2]) rfl ⟨by rw [← HBB.out]; exact k4, .inr (.inl ⟨⟨hz1, hz2⟩, ⟨i, HIL.out.1, HRI.out.symm⟩, rfl⟩)⟩
                | false =>
                  go_wp2_with fail
                  rw [show (p : Int) + (xi : Int) = ((i : Nat) : Int) by rw [← HPI.out]; simp]
                  refine (held_any W H _ n cap Z HG.out i bo m cap2 hm T _ HI5.out HT5.out).mono ?_
                  rw [← HRI.out]
                  rintro e w5 ⟨rfl, hb5⟩
                  have hnx : Hid (∀ q, q < j + 1 → heldB W H T m (L.getD q 0) = false) := hid (fun q hq => by
                    by_cases h : q < j
                    · exact hR.out.2 q h
                    · obtain rfl : q = j := by omega
                      rw [← HIL.out.2]; exact HRI.out.symm)
                  have HS6 := hid (HS5.out.stays hb5)
                  clear hb5
                  go_wp2_with fail
                  go_roundw
                  case rel => exact ⟨j + 1, by omega, by go_num, hid ⟨HS6.out, hnx.out⟩⟩
                  case measure => simp [intOf]; omega
              · obtain rfl : j = L.length := by omega
                have HS6 := hid hR.out.1
                have HNF := hid hR.out.2
                have t0 : wr.cell? ⟨ob, 0, none⟩ = some (.int .i64 W) := cell_of_row wr ob 0 _ _ _ HS6.out.ho
                have t1 : wr.cell? ⟨ob, 1, none⟩ = some (.int .i64 H) := cell_of_row wr ob 1 _ _ _ HS6.out.ho
                have t2 : wr.cell? ⟨ob, 2, none⟩ = some (.slice (some ⟨g1, 0, none⟩) n cap1) := cell_of_row wr ob 2 _ _ _ HS6.out.ho
                have hr := HS6.out.hr
                have r0 : wr.cell? ⟨B + 1, 0, none⟩ = some (.int .i64 0) := cell_of_row wr (B + 1) 0 _ _ _ hr
                have r1 : wr.cell? ⟨B + 1, 1, none⟩ = some (.int .i64 0) := cell_of_row wr (B + 1) 1 _ _ _ hr
                have r2 : wr.cell? ⟨B + 1, 2, none⟩ = some (.slice none 0 0) := cell_of_row wr (B + 1) 2 _ _ _ hr
                have f0 : wr.frozen? ⟨B + 1, 0, none⟩ = false := frozen_of_row wr (B + 1) 0 _ _ hr
                have f1 : wr.frozen? ⟨B + 1, 1, none⟩ = false := frozen_of_row wr (B + 1) 1 _ _ hr
                have f2 : wr.frozen? ⟨B + 1, 2, none⟩ = false := frozen_of_row wr (B + 1) 2 _ _ hr
                have hbz := heap_lt hr
                have hlt2 := HS6.out.lt
                clear hr hR
                go_wp2_with fail
                have k3 := set3 HS6.out.hr (.int .i64 W) (.int .i64 H) (.slice (some ⟨g1, 0, none⟩) n cap1)
                have k4 := set3_below (g := B + 1) HS6.out.below (Nat.le_succ _) (.int .i64 W) (.int .i64 H) (.slice (some ⟨g1, 0, none⟩) n cap1)
                have k5 := (set3_row (g := B + 1) (HS6.out.r2.mono' (base' := w.heap.size) (by rw [← HBB.out]; omega)) (by simp [Value.ownBlock]; omega) (.int .i64 W) (.int .i64 H) (.slice (some ⟨g1, 0, none⟩) n cap1))
                have k6 := (set3_row (g := B + 1) (HS6.out.r1.mono' (base' := w.heap.size) (by rw [← HBB.out]; omega)) (by simp [Value.ownBlock]; omega) (.int .i64 W) (.int .i64 H) (.slice (some ⟨g1, 0, none⟩) n cap1))
                clear r0 r1 r2 f0 f1 f2 t0 t1 t2
                generalize World.setCell _ _ _ = w6 at k3 k4 k5 k6 ⊢
                have q0 := cell_of_row w6 (B + 1) 0 _ _ _ k3
                have q1 := cell_of_row w6 (B + 1) 1 _ _ _ k3
                have q2 := cell_of_row w6 (B + 1) 2 _ _ _ k3
                simp at q0 q1 q2
                refine bodyPost_ret (v := .tuple #[lv W H (.slice (some ⟨g1, 0, none⟩) n cap1), .slice (some ⟨gl, 0, none⟩) L.length capl, .int .i64 ct, .int .i64 0]) (by simp [results, Try.results35, go_sem, q0, q1, q2]) rfl ⟨by rw [← HBB.out]; exact k4, .inr (.inr ⟨⟨hz1, hz2⟩, fun i hi => ?_, g1, cap1, _, by rw [HCT.out], k5, k6⟩)⟩
                obtain ⟨q, hq, rfl⟩ := List.getElem_of_mem hi
                have := HNF.out q hq
                simpa [hq] using this
      · have HZ := hid hzz
        by_cases e0 : z < 0
        all_goals first
          | (exfalso; omega)
          | (have e1' : 0 ≤ z → 15 < z := fun h => by have := HZ.out; omega
             have hr := H2.out.hr
             have r0 : w2.cell? ⟨B + 1, 0, none⟩ = some (.int .i64 0) := cell_of_row w2 (B + 1) 0 _ _ _ hr
             have r1 : w2.cell? ⟨B + 1, 1, none⟩ = some (.int .i64 0) := cell_of_row w2 (B + 1) 1 _ _ _ hr
             have r2 : w2.cell? ⟨B + 1, 2, none⟩ = some (.slice none 0 0) := cell_of_row w2 (B + 1) 2 _ _ _ hr
             have f0 : w2.frozen? ⟨B + 1, 0, none⟩ = false := frozen_of_row w2 (B + 1) 0 _ _ hr
             have f1 : w2.frozen? ⟨B + 1, 1, none⟩ = false := frozen_of_row w2 (B + 1) 1 _ _ hr
             have f2 : w2.frozen? ⟨B + 1, 2, none⟩ = false := frozen_of_row w2 (B + 1) 2 _ _ hr
             have hbz := heap_lt hr
             clear hr hzz
             go_wp2_with fail
             have k3 := set3 H2.out.hr (.int .i64 0) (.int .i64 0) (.slice none 0 0)
             have k4 := set3_below (g := B + 1) H2.out.below (Nat.le_succ _) (.int .i64 0) (.int .i64 0) (.slice none 0 0)
             clear r0 r1 r2 f0 f1 f2
             generalize World.setCell _ _ _ = w9 at k3 k4 ⊢
             have q0 := cell_of_row w9 (B + 1) 0 _ _ _ k3
             have q1 := cell_of_row w9 (B + 1) 1 _ _ _ k3
             have q2 := cell_of_row w9 (B + 1) 2 _ _ _ k3
             simp at q0 q1 q2
             refine bodyPost_ret (v := none4 6) (by simp [results, Try.results35, go_sem, q0, q1, q2]) rfl ⟨by rw [← HBB.out]; exact k4, .inl ⟨HZ.out, rfl⟩⟩)
  exact key up s hw HM

/-- A shift that the reference refuses. -/
theorem refshift_no (W H : Int) (ao : Option Addr) (n cap : Nat) (Z : Nat → Int) (hn : n ≤ 9223372036854775807) (x y : Int) (up : Bool) (s : Int) (hw : Way up s) (bo : Option Addr) (m cap2 : Nat) (hm : m ≤ 9223372036854775807) (T : Nat → Int) (w : World)
    (hI : Ints w ao n Z) (hT : Ints w bo m T) (e : Int) (hE : SErr W H n Z x y s m T e) :
    Calls Try.prog 35 #[lv W H (.slice ao n cap), .int .i64 x, .int .i64 y, .bool up, .slice bo m cap2] w fun r w' => r = .returned (none4 e) ∧ Below w.heap.size w w' := by
  rcases hE with ⟨h0, hE⟩ | ⟨rfl, hV, hr⟩ | ⟨W', H', x', y', rfl, rfl, rfl, rfl, hg, hx, hy, h⟩
  · exact refshift_bad W H ao n cap Z hn x y up _ w hI e h0 hE
  · exact refshift_out W H ao n cap Z hn x y up _ w hI hV hr
  · refine (refshift_go W' H' ao n cap Z hg x' y' hx hy up s hw bo m cap2 hm T w hI hT _ rfl _ rfl _ rfl).mono ?_
    rintro r w' ⟨hb, h'⟩
    refine ⟨?_, hb⟩
    rcases h with ⟨rfl, hz⟩ | ⟨rfl, hz, i, hi, hF⟩
    · rcases h' with ⟨_, hr⟩ | ⟨hz', _⟩ | ⟨hz', _⟩
      · exact hr
      · exact absurd hz' hz
      · exact absurd hz' hz
    · rcases h' with ⟨hz', _⟩ | ⟨_, _, hr⟩ | ⟨_, ha, _⟩
      · exact absurd hz hz'
      · exact hr
      · rw [ha i hi] at hF; cases hF
/-- A shift that the reference does. -/
theorem refshift_ok (W H : Nat) (ao : Option Addr) (n cap : Nat) (Z : Nat → Int) (x y : Nat) (up : Bool) (s : Int) (hw : Way up s) (bo : Option Addr) (m cap2 : Nat) (hm : m ≤ 9223372036854775807) (T : Nat → Int) (w : World)
    (hI : Ints w ao n Z) (hT : Ints w bo m T) {z : Int} {L : List Nat} {X : Nat → Int} (h : SOk W H n Z x y s m T z L X) :
    Calls Try.prog 35 #[lv W H (.slice ao n cap), .int .i64 x, .int .i64 y, .bool up, .slice bo m cap2] w fun r w' =>
      ∃ (g1 cap1 : Nat) (v : Value), r = .returned (.tuple #[lv W H (.slice (some ⟨g1, 0, none⟩) n cap1), v, .int .i64 (L.length * 250 : Nat), .int .i64 0]) ∧
        w'.ownsRow w.heap.size 53 3 v L.length (encC W X L) ∧ w'.ownsRow w.heap.size 3 1 (.slice (some ⟨g1, 0, none⟩) n cap1) n (ints n X) ∧ Below w.heap.size w w' := by
  refine (refshift_go W H ao n cap Z h.good x y h.hx h.hy up s hw bo m cap2 hm T w hI hT z h.ez L h.hL X h.hX).mono ?_
  rintro r w' ⟨hb, h'⟩
  rcases h' with ⟨hz', _⟩ | ⟨_, ⟨i, hi, hF⟩, _⟩ | ⟨_, _, g1, cap1, v, h1, h2, h3⟩
  · exact absurd h.hz hz'
  · rw [h.free i hi] at hF; cases hF
  · exact ⟨g1, cap1, v, h1, h2, h3, hb⟩
end Go.Proofs.Ytngamphkehppfaa
