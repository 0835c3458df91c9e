/-
  The walks of oldest and of its comparison.
-/
import Derived.Test.YtnfcibcpmaehoaaQTk
import Derived.Test.YtnfcibcpmaehoaaQInI
import Derived.Test.YtnfcibcpmaehoaaQPay
namespace Go.Proofs.Ytnfcibcpmaehoaa
open Go.RowKit

set_option maxRecDepth 100000 in
set_option maxHeartbeats 1600000 in
theorem old1_any (po : Option Addr) (n pc : Nat) (P : Nat → Par) (A i j : Nat) (hi : i < n) (hj : j < n) (w : World) (hA : w.cell? ⟨A, 0, none⟩ = some (.slice po n pc)) (hP : Pars w po n P) :
    Calls Try.prog 79 #[.int .i64 (i : Int), .int .i64 (j : Int), .pointer (some ⟨A, 0, none⟩)] w fun e w' => e = .returned (.int .i64 (sgn (P j).a (P i).a)) ∧ Below w.heap.size w w' := by
  obtain ⟨b, off, rfl, hb, a0, a1, a2, a3, a4, a5⟩ := hP i hi
  obtain ⟨b', off', e', _, d0, d1, d2, d3, d4, d5⟩ := hP j hj
  cases e'
  generalize (P i).a = x at a3 ⊢
  generalize (P j).a = y at d3 ⊢
  have HC := hid (fun n => quiet_eq (cmpN_any y x (w.drewN n)))
  clear a0 a1 a2 a4 a5 d0 d1 d2 d4 d5 hP
  go_enter Try.func79, Try.ntmps79
  go_upto_region 1 with fail
  go_quiet (with_reducible exact HC.out _)
  go_wp2_with fail
  go_ret
  exact ⟨rfl, Joins.below_draws _ _ _⟩
/-- Places as cells. -/
def encN (L : List Nat) : List Value := L.map fun x : Nat => .int .i64 (x : Int)
theorem encN_length (L : List Nat) : (encN L).length = L.length := by simp [encN]
theorem encN_snoc (L : List Nat) (x : Nat) : encN (L ++ [x]) = encN L ++ [.int .i64 (x : Int)] := by simp [encN]
theorem encN_vals (L : List Nat) : encN L = vals L.length (iv fun p => ((L.getD p 0 : Nat) : Int)) := by
  apply List.ext_getElem?
  intro j
  by_cases h : j < L.length
  · rw [vals_get _ h, encN]; simp [List.getD, h]
  · rw [List.getElem?_eq_none (by rw [encN_length]; omega), List.getElem?_eq_none (by rw [vals_length]; omega)]
/-- The memory of the search for places. -/
structure OS (A : Nat) (po : Option Addr) (n pc : Nat) (L : List Nat) (lst : Value) (w wr : World) : Prop where
  hA : wr.heap[A]? = some (.cells #[.slice po n pc] 22 (0, 0))
  row : wr.ownsRow (A + 1) 3 1 lst L.length (encN L)
  below : Below A w wr
  size : A + 1 ≤ wr.heap.size
  nil : L = [] → lst = .slice none 0 0
section
variable {A : Nat} {po : Option Addr} {n pc : Nat} {L : List Nat} {lst lst' : Value} {w wr w' : World}
theorem OS.stays (h : OS A po n pc L lst w wr) (k : Below wr.heap.size wr w') : OS A po n pc L lst w w' :=
  ⟨(k.block A (heap_lt h.hA)).trans h.hA, row_stays h.row k, h.below.trans (k.mono (by have := heap_lt h.hA; omega)), Nat.le_trans h.size k.size, h.nil⟩
theorem OS.app {x : Nat} (h : OS A po n pc L lst w wr) (hr : w'.ownsRow (A + 1) 3 1 lst' (L.length + 1) (encN L ++ [.int .i64 (x : Int)])) (o : Obj) (hg : (wr.alloc o).grownBy w' lst.ownBlock) : OS A po n pc (L ++ [x]) lst' w w' := by
  have hz := heap_lt h.hA
  have hs := h.size
  have ho : ∀ k, lst.ownBlock = some k → A + 1 ≤ k := fun k hk => (h.row.lt k hk).1
  have hb : Below (A + 1) wr w' := ((Below.refl _ wr).alloc hs o).grown hg (by simp; omega) ho
  refine ⟨(hb.block A (by omega)).trans h.hA, ?_, h.below.trans (hb.mono (by omega)), by have := hb.size; omega, fun e => by simp at e⟩
  rw [List.length_append, encN_snoc]
  exact hr
end
/-- What oldest leaves. -/
def OldP (n : Nat) (P : Nat → Par) (k u : Int) (w : World) (e : Ending) (w' : World) : Prop := ∃ M q σ, e = .returned (.slice (some ⟨M, 0, none⟩) n n) ∧ Sg n P k q σ ∧ w'.ownsRow w.heap.size 3 1 (.slice (some ⟨M, 0, none⟩) n n) n (vals n (iv (cS P σ u q))) ∧ Below w.heap.size w w'
theorem run_mkI (c : Nat) (hc : c ≤ 1000000) (w : World) : (Instr.makeSlice 69 (.int .i64 (c : Int)) (.int .i64 (c : Int))).run Try.prog w = .ok (.slice (some ⟨w.heap.size, 0, none⟩) c c) (w.alloc (.cells (madeCells #[.int .i64 0] (c * 1)) 3)) := by
  obtain ⟨i0, hi0, hi1, hi2, hi3⟩ := info_parts info3
  have := run_make (P := Try.prog) (w := w) 69 3 i0 _ Try.underlying69 hi0 hi1 .i64 .i64 (c : Int) (c : Int) (by omega) (by omega) (by rw [hi3]; omega) (by omega)
  rw [this, hi2]
  rfl
theorem made_I (n : Nat) : (madeCells #[.int .i64 0] (n * 1)).toList = vals n (iv fun _ => 0) := by
  apply List.ext_getElem?
  intro j
  by_cases h : j < n
  · rw [vals_get _ h]
    simp only [madeCells, Array.toList_map, List.getElem?_map, Array.toList_range]
    rw [List.getElem?_range (by omega)]
    show some ((#[.int .i64 0] : Array Value)[j % 1]!) = _
    rw [Nat.mod_one]
    rfl
  · rw [List.getElem?_eq_none (by simp [size_madeCells]; omega), List.getElem?_eq_none (by rw [vals_length]; omega)]
/-- The memory of the counting. -/
structure O2 (A M g q : Nat) (po : Option Addr) (n pc : Nat) (σ : Nat → Nat) (C : Nat → Int) (w wr : World) : Prop where
  box : wr.heap[A]? = some (.cells #[.slice po n pc] 22 (0, 0))
  row : wr.ownsRow A 3 1 (.slice (some ⟨M, 0, none⟩) n n) n (vals n (iv C))
  ord : ∀ j, j < q → wr.cell? ⟨g, j, none⟩ = some (.int .i64 (σ j : Int))
  gl : g < wr.heap.size
  below : Below A w wr
  AM : A < M
  ne : g ≠ M
theorem O2.stays {A M g q : Nat} {po : Option Addr} {n pc : Nat} {σ : Nat → Nat} {C : Nat → Int} {w wr w' : World} (h : O2 A M g q po n pc σ C w wr) (k : Below wr.heap.size wr w') : O2 A M g q po n pc σ C w w' :=
  ⟨(k.block A (heap_lt h.box)).trans h.box, row_stays h.row k, fun j hj => (k.cell (p := ⟨g, j, none⟩) h.gl).trans (h.ord j hj), by have := k.size; have := h.gl; omega, h.below.trans (k.mono (by have := heap_lt h.box; omega)), h.AM, h.ne⟩
theorem O2.put {A M g q : Nat} {po : Option Addr} {n pc : Nat} {σ : Nat → Nat} {C : Nat → Int} {w wr : World} (h : O2 A M g q po n pc σ C w wr) (i : Nat) (v : Int) : O2 A M g q po n pc σ (fun x => if x = i then v else C x) w (wr.setCell ⟨M, i, none⟩ (.int .i64 v)) := by
  have hT : Tn M wr (wr.setCell ⟨M, i, none⟩ (.int .i64 v)) := (Tn.refl M wr).put _
  have hr := (h.row.stored i (.int .i64 v)).1
  rw [vals_set] at hr
  refine ⟨hT.heap h.box (by have := h.AM; omega), ?_, fun j hj => (hT.cell (p := ⟨g, j, none⟩) h.gl h.ne).trans (h.ord j hj), Nat.lt_of_lt_of_le h.gl hT.size, h.below.trans (hT.below (Nat.le_of_lt h.AM) (by have := heap_lt h.box; omega)), h.AM, h.ne⟩
  rw [vals_congr (G := fun x => if x = i then .int .i64 v else iv C x)]
  · exact hr
  · intro x _
    show Value.int .i64 (if x = i then v else C x) = _
    by_cases e : x = i
    · rw [if_pos e, if_pos e]
    · rw [if_neg e, if_neg e]
set_option maxRecDepth 100000 in
set_option maxHeartbeats 12800000 in
theorem oldest_any (po : Option Addr) (n pc : Nat) (P : Nat → Par) (hL : Load n P) (k u : Int) (hu : 0 ≤ u) (hu2 : u ≤ 9223372036854775807) (w : World) (hP : Pars w po n P) :
    Calls Try.prog 55 #[.slice po n pc, .int .i64 k, .int .i64 u] w (OldP n P k u w) := by
  obtain ⟨i0, hi, hz0, hz1, hz2⟩ := info_parts info3
  have HIN := hid (And.intro hi (And.intro hz0 (And.intro hz1 hz2)))
  have hmk := run_mkI n (by have := hL.le; omega)
  have hmf : ∀ (fn : Fn) (first cap : Array Value) (w : World), (Instr.makeFunc fn first cap).run Try.prog w = .ok (.func fn first cap) w := fun _ _ _ _ => rfl
  obtain ⟨A, hA⟩ : ∃ A, w.heap.size = A := ⟨_, rfl⟩
  have HAW := hid hA
  have HP : Hid (∀ wr, Below A w wr → Pars wr po n P) := hid (fun wr hb => hP.stays (by rw [hA]; exact hb))
  have hle := hL.le
  have HL := hid hL
  have HU := hid (And.intro hu hu2)
  have HE : Hid (OS A po n pc [] (.slice none 0 0) w (w.alloc (.cells #[.slice po n pc] 22))) := hid (by
    rw [← hA]
    exact ⟨heap_new _ _, World.ownsRow_nil _ _ _ _, Joins.below_alloc1 _ _, by simp, fun _ => rfl⟩)
  clear hi hz0 hz1 hz2 hP hL hu hu2
  go_enter Try.func55, Try.ntmps55
  go_upto_region 1 with fail
  clear hA
  generalize World.alloc _ _ = w1 at HE ⊢
  have hA1 := cell_of_row _ _ 0 _ _ _ HE.out.hA
  go_wp2_with fail
  go_loopw [7, 16] (fun lst iv wr => ∃ i : Nat, i ≤ n ∧ iv = .int .i64 i ∧ Hid (OS A po n pc (pls P k i) lst w wr)) (fun _ iv _ => n - (intOf iv).toNat)
  case atStart => exact ⟨0, Nat.zero_le _, rfl, HE⟩
  case round =>
    clear HE hA1 hmk hmf
    obtain ⟨i, hi, rfl, HS⟩ := hrel
    by_cases hlt : i < n
    · obtain ⟨b, off, e, hbl, a0, a1, a2, a3, a4, a5⟩ := HP.out wr HS.out.below i hlt
      subst e
      obtain ⟨x, hx⟩ : ∃ x, P i = x := ⟨_, rfl⟩
      rw [hx] at a0 a1 a2 a3 a4 a5
      have HS2 := hid (HS.out.stays (((Below.refl _ wr).alloc (Nat.le_refl _) (.cells #[.int .i64 x.k, .int .i64 x.f, .int .i64 x.t, .int .i64 x.a, .int .i64 x.c, .int .i64 x.s] 36))))
      by_cases hk : x.k = k
      · have HD := hid (pls_yes (P := P) (k := k) (i := i) (by rw [hx]; exact hk))
        obtain ⟨LL, hLL⟩ : ∃ LL, LL = pls P k i := ⟨_, rfl⟩
        have hlen : LL.length ≤ 200 := by rw [hLL]; have := pls_len P k i; omega
        rw [← hLL] at HS2 HD
        clear hx hLL HS
        subst hk
        go_wp2_with (at_builtin; refine wpList_append_lies _ rfl _ _ 69 rfl (A + 1) 3 i0 (.int .i64 0) 1 8 Try.underlying69 HIN.out.1 HIN.out.2.1 HIN.out.2.2.1 HIN.out.2.2.2 rfl (by decide) _ _ _ rfl (HS2.out.row.alloc _) ⟨wr.heap.size + 1, 0, none⟩ 1 1 [.int .i64 (i : Int)] rfl rfl ?c1 ?c2 (by decide) ?c3 ?c4 ?c5 (wr.heap.size + 2) (by simp) ?_)
        case c1 =>
          intro j v hj
          match j, hj with
          | 0, hj => simp at hj; subst hj; simp [Addr.add]
        case c2 => intro v hv; simp at hv; subst hv; rfl
        case c3 => unfold maxLen; omega
        case c4 => omega
        case c5 => have := HS2.out.size; simp at this ⊢; omega
        intro g2 cap2 w6 hown hgrow hat hlt6
        have HS3 := hid (HS2.out.app (x := i) hown _ hgrow)
        clear hown hgrow hat hlt6 HS2 a0 a1 a2 a3 a4 a5 hbl
        go_wp2_with fail
        go_roundw
        case rel => exact ⟨i + 1, by omega, by go_num, hid (by rw [HD.out]; exact HS3.out)⟩
        case measure => simp [intOf]; omega
      · have hb : (x.k == k) = false := by simpa using hk
        have HD := hid (pls_no (P := P) (k := k) (i := i) (by rw [hx]; exact hk))
        clear hx HS
        go_wp2_with fail
        go_roundw
        case rel => exact ⟨i + 1, by omega, by go_num, hid (by rw [HD.out]; exact HS2.out)⟩
        case measure => simp [intOf]; omega
    · obtain rfl : n = i := by omega
      have hA1 := cell_of_row _ _ 0 _ _ _ HS.out.hA
      have hmk := run_mkI n (by omega)
      have hmf : ∀ (fn : Fn) (first cap : Array Value) (w : World), (Instr.makeFunc fn first cap).run Try.prog w = .ok (.func fn first cap) w := fun _ _ _ _ => rfl
      obtain ⟨M, hM⟩ : ∃ M, wr.heap.size = M := ⟨_, rfl⟩
      have HMA : Hid (A + 1 ≤ M) := hid (by rw [← hM]; exact HS.out.size)
      have HOS := hid (HS.out.stays ((Below.refl _ wr).alloc (Nat.le_refl _) (.cells (madeCells #[.int .i64 0] (n * 1)) 3)))
      have HRM : Hid ((wr.alloc (.cells (madeCells #[.int .i64 0] (n * 1)) 3)).ownsRow A 3 1 (.slice (some ⟨M, 0, none⟩) n n) n (vals n (iv (cS P (fun _ => 0) u 0)))) := hid ⟨by rw [vals_length]; omega, .inr ⟨M, n, _, rfl, by have := HMA.out; omega, by rw [← hM]; exact heap_new _ _, Nat.le_refl _, by unfold maxLen; omega, by simp [size_madeCells], by
        rw [made_I]; exact List.take_of_length_le (by rw [vals_length]; omega)⟩⟩
      have HSZ : Hid ((wr.alloc (.cells (madeCells #[.int .i64 0] (n * 1)) 3)).heap.size = M + 1) := hid (by rw [← hM]; simp)
      clear HS
      go_upto_region 10 with fail
      clear hA1 hmk hmf hM
      rw [Nat.mul_one] at HOS HRM HSZ
      generalize World.alloc _ _ = w2 at HOS HRM HSZ ⊢
      have HFIN : ∀ (q : Nat) (σ : Nat → Nat) (wz : World), Sg n P k q σ → wz.ownsRow A 3 1 (.slice (some ⟨M, 0, none⟩) n n) n (vals n (iv (cS P σ u q))) → Below A w wz → OldP n P k u w (.returned (.slice (some ⟨M, 0, none⟩) n n)) wz := fun q σ wz h1 h2 h3 => ⟨M, q, σ, rfl, h1, by rw [HAW.out]; exact h2, by rw [HAW.out]; exact h3⟩
      have HFIN' := hid HFIN
      clear HFIN
      cases hLL : pls P k n with
      | nil =>
        have hnil := HOS.out.nil hLL
        subst hnil
        have HI := hid (ino_nilI 79 #[.pointer (some ⟨A, 0, none⟩)] w2)
        have HSG := hid (Sg.none hLL (fun _ => 0))
        clear hLL
        go_wp2_with fail
        refine HI.out.mono ?_
        rintro e w3 ⟨rfl, hb⟩
        have HB := hid hb
        clear hb HI
        go_wp2_with fail
        refine wp_loop_rounds 1 ?_
        rw [rounds_succ]
        go_wp2_with fail
        go_ret
        exact HFIN'.out 0 _ _ HSG.out (row_stays HRM.out HB.out) (HOS.out.below.trans (HB.out.mono (by have := HOS.out.size; omega)))
      | cons x0 xs0 =>
        have hpos : 0 < (pls P k n).length := by rw [hLL]; simp
        clear hLL
        obtain ⟨q, hq⟩ : ∃ q, (pls P k n).length = q := ⟨_, rfl⟩
        have hq200 : q ≤ 200 := by have := pls_len P k n; omega
        have hrow := HOS.out.row
        rw [hq] at hrow hpos
        obtain ⟨gp, cp, e, _, _⟩ := hrow.form hpos
        subst e
        have hV : Vals w2 (some ⟨gp, 0, none⟩) q (iv fun p => (((pls P k n).getD p 0 : Nat) : Int)) := vals_of_row (by have := encN_vals (pls P k n); rw [hq] at this; rw [← this]; exact hrow)
        have HQ := hid hq
        have HI := hid (inoI_any (some ⟨gp, 0, none⟩) q cp (fun p => (((pls P k n).getD p 0 : Nat) : Int)) (rkA P k n) 79 #[.pointer (some ⟨A, 0, none⟩)] (fun _ _ => rfl) (by rw [← hq]; exact rkA_rk HL.out) hpos (by omega) w2 hV (fun g w1 hg hb1 W a b hab hb hT => by
          have hW : Below w2.heap.size w2 W := hb1.trans (hT.below hg hb1.size)
          have hOW := HOS.out.stays hW
          have l1 := pls_at (P := P) (k := k) (i := n) (j := a) (by omega)
          have l2 := pls_at (P := P) (k := k) (i := n) (j := b) (by omega)
          refine (old1_any po n pc P A ((pls P k n).getD b 0) ((pls P k n).getD a 0) l2.1 l1.1 W (cell_of_row _ _ 0 _ _ _ hOW.hA) (HP.out W hOW.below)).mono ?_
          rintro e w' ⟨rfl, hbw⟩
          refine ⟨_, rfl, ?_, hbw⟩
          rw [rkA_lt HL.out hab (by omega)]
          unfold sgn
          split
          · exact ⟨fun _ => by assumption, fun _ => by omega⟩
          · split <;> exact ⟨fun h => by omega, fun h => by omega⟩))
        clear hV hrow hq
        go_wp2_with fail
        refine HI.out.mono ?_
        rintro e w3 ⟨g, c, F, rfl, k1, k2, k3, k4⟩
        obtain ⟨σ, hσ⟩ : ∃ σ : Nat → Nat, (fun j => (pls P k n).getD (F j) 0) = σ := ⟨_, rfl⟩
        have HSG : Hid (Sg n P k q σ) := hid (by rw [← hσ, ← HQ.out]; rw [← HQ.out] at k2 k3; exact Sg.of HL.out k2 k3)
        have hg := World.ownsRow.lt k1 g rfl
        have HO : Hid (O2 A M g q po n pc σ (cS P σ u 0) w w3) := hid ⟨(HOS.out.stays k4).hA, row_stays HRM.out k4, fun j hj => by
            have := (k1.cellAt j (by omega)).trans (vals_get _ hj)
            rw [this, ← hσ], hg.2, (HOS.out.stays k4).below, by have := HMA.out; omega, by have := HSZ.out; omega⟩
        clear hσ k1 k2 k3 k4 hg HI HRM HOS HSZ HMA
        go_wp2_with fail
        go_loopw [2, 38] (fun nv iv wr => ∃ j : Nat, ∃ v : Int, j ≤ q ∧ iv = .int .i64 j ∧ nv = .int .i64 v ∧ Hid (v = uS P σ u j ∧ O2 A M g q po n pc σ (cS P σ u j) w wr)) (fun _ iv _ => q - (intOf iv).toNat)
        case atStart => exact ⟨0, u, Nat.zero_le _, rfl, rfl, hid ⟨rfl, HO.out⟩⟩
        case round =>
          clear HO
          obtain ⟨j, v, hj, rfl, rfl, HS⟩ := hrel
          by_cases hlt2 : j < q
          · have hsl := (HSG.out.lt j hlt2).1
            have hbd := uS_bd HL.out HSG.out HU.out.1 j hj
            rw [← HS.out.1] at hbd
            have hu2 := HU.out.2
            obtain ⟨b, off, e, hbl, a0, a1, a2, a3, a4, a5⟩ := HP.out wr HS.out.2.below (σ j) hsl
            subst e
            have hok := HL.out.ok (σ j) hsl
            have c0 := HS.out.2.ord j hlt2
            have cA := cell_of_row _ _ 0 _ _ _ HS.out.2.box
            have hfz := World.ownsRow.frozenAt HS.out.2.row
            obtain ⟨z, hcM⟩ : ∃ z : Int, wr.cell? ⟨M, σ j, none⟩ = some (.int .i64 z) := ⟨_, (HS.out.2.row.cellAt (σ j) (by omega)).trans (vals_get _ hsl)⟩
            have hcn := hok.c1
            have hcn2 := hok.c2
            have hstp : uS P σ u (j + 1) = v - min v (P (σ j)).c := by rw [HS.out.1]; rfl
            have hcst : cS P σ u (j + 1) = fun x => if x = σ j then min v (P (σ j)).c else cS P σ u j x := by rw [HS.out.1]; rfl
            obtain ⟨y, hy⟩ : ∃ y, (P (σ j)).c = y := ⟨_, rfl⟩
            rw [hy] at a4 hcn hcn2 hstp hcst
            obtain ⟨m, hm⟩ : ∃ m, min v y = m := ⟨_, rfl⟩
            have k1 := min_is hm
            rw [hm] at hstp hcst
            have wv : IntKind.i64.wrap (v - m) = v - m := by rw [IntKind.wrap_i64]; omega
            have HST := hid hstp
            have HO2 := hid (HS.out.2.put (σ j) m)
            rw [← hcst] at HO2
            obtain ⟨s, hs⟩ : ∃ s, σ j = s := ⟨_, rfl⟩
            rw [hs] at a0 a1 a2 a3 a4 a5 c0 hsl HO2 hcM
            have hcs : cS P σ u (j + 1) s = m := by rw [hcst, hs]; show (if s = s then m else _) = m; rw [if_pos rfl]
            have cM2 := (HO2.out.row.cellAt s (by omega)).trans (vals_get _ hsl)
            have cM3 : (wr.setCell ⟨M, s, none⟩ (.int .i64 m)).cell? ⟨M, s, none⟩ = some (.int .i64 m) := by rw [cM2]; show some (Value.int .i64 _) = _; rw [hcs]
            clear hstp hcst HS hok hy hm hs hbd hcn hcn2 cM2 hu2 hcs
            go_upto_region 14 with fail
            generalize World.setCell _ _ _ = w5 at HO2 cM3 ⊢
            clear a0 a1 a2 a3 a4 a5 c0 cA hfz hbl k1 hcM
            go_wp2_with fail
            go_roundw
            case rel => exact ⟨j + 1, v - m, by omega, by go_num, rfl, hid ⟨HST.out.symm, HO2.out⟩⟩
            case measure => simp [intOf]; omega
          · obtain rfl : q = j := by omega
            go_wp2_with fail
            go_ret
            exact HFIN'.out _ σ _ HSG.out HS.out.2.row HS.out.2.below
end Go.Proofs.Ytnfcibcpmaehoaa
