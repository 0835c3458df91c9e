/-
  The walk of ways: the best way to each node.
-/
import Derived.Test.YtokpdjdpeaccbaaGSe2
import Derived.RangeFuncBox
import Derived.Maps.AppendAt
namespace Go.Proofs.Ytokpdjdpeaccbaa
open Go.RowKit
attribute [local go_sem] Oper.semAt_some

set_option maxHeartbeats 800000 in
theorem search_any (n q0 fcap : Nat) (fo : Option Addr) (fv : Value) (w : World) (g : Nat) (bs : Array Value) (hfv : fv = .func (.func g) bs #[]) :
    Calls Try.prog 58 #[.int .i64 (n : Int), .slice fo q0 fcap, fv] w fun e w' => e = .returned (.func (.func 76) #[] #[.pointer (some ⟨w.heap.size, 0, none⟩), .pointer (some ⟨w.heap.size + 1, 0, none⟩), .pointer (some ⟨w.heap.size + 2, 0, none⟩)]) ∧
      ((w.alloc (.cells #[.int .i64 (n : Int)] 3)).alloc (.cells #[.slice fo q0 fcap] 61)).alloc (.cells #[fv] 94) = w' := by
  subst hfv
  go_enter Try.func58, Try.ntmps58
  go_wp2
  go_ret
  exact ⟨rfl, rfl⟩
/-- The table that a search fills. -/
def tbl (xs : List Wy) : Nat → Wy := xs.foldl (fun L x => updG L x.nd x) (fun _ => nilW)
theorem tbl_snoc (xs : List Wy) (x : Wy) : tbl (xs ++ [x]) = updG (tbl xs) x.nd x := by simp [tbl]
theorem fold_no : ∀ (xs : List Wy) (L : Nat → Wy) {u : Nat}, u ∉ xs.map Wy.nd → xs.foldl (fun L x => updG L x.nd x) L u = L u
  | [], _, _, _ => rfl
  | y :: ys, L, u, h => by
    rw [List.map_cons, List.mem_cons] at h
    rw [List.foldl_cons, fold_no ys _ (fun hm => h (.inr hm))]
    have hne : u ≠ y.nd := fun e => h (.inl e)
    simp [updG, hne]
theorem fold_at : ∀ (xs : List Wy) (L : Nat → Wy), (xs.map Wy.nd).Nodup → ∀ {x : Wy}, x ∈ xs → xs.foldl (fun L x => updG L x.nd x) L x.nd = x
  | [], _, _, _, h => by cases h
  | y :: ys, L, hd, x, h => by
    rw [List.map_cons, List.nodup_cons] at hd
    rw [List.foldl_cons]
    rcases List.mem_cons.1 h with rfl | h
    · rw [fold_no ys _ hd.1]; simp [updG]
    · exact fold_at ys _ hd.2 h
theorem tbl_at {xs : List Wy} (h : (xs.map Wy.nd).Nodup) {x : Wy} (hx : x ∈ xs) : tbl xs x.nd = x := fold_at xs _ h hx
theorem tbl_no {xs : List Wy} {u : Nat} (h : u ∉ xs.map Wy.nd) : tbl xs u = nilW := fold_no xs _ h
/-- What ways leaves. -/
def WaysIs (n q0 : Nat) (G : Gr) (X : Nat → Nat) (w : World) (e : Ending) (w' : World) : Prop := ∃ (M : Nat) (xs : List Wy), e = .returned (.slice (some ⟨M, 0, none⟩) n n) ∧ (ledBy G q0 X).Run xs ∧ (ledBy G q0 X).Fin xs ∧ RowW w' w.heap.size (.slice (some ⟨M, 0, none⟩) n n) n (tbl xs) ∧ Below w.heap.size w w'
set_option maxRecDepth 100000 in
set_option maxHeartbeats 12800000 in
theorem ways_any (n q0 F fc ic : Nat) (G : Gr) (X : Nat → Nat) (io : Option Addr) (hn : n ≤ 2000) (hm : ∀ i, i < G.m → G.c i ≤ 1000000000 ∧ G.t i < n) (hgm : G.m ≤ 10000) (hX : ∀ j, j < q0 → X j < n) (hq0 : q0 ≤ 100000)
    (w : World) (hF : FM w.heap.size n G F w) (hI : Ints w io q0 (fun j => (X j : Int))) :
    Calls Try.prog 45 #[.slice (some ⟨F, 0, none⟩) n fc, .slice io q0 ic] w (WaysIs n q0 G X w) := by
  obtain ⟨i0, hi0, hi1, hi2, hi3⟩ := info_parts infoW
  have HIN := hid (And.intro hi0 (And.intro hi1 (And.intro hi2 hi3)))
  have hmW := run_mkW n (by omega)
  have HF := hid hF
  have HI := hid hI
  obtain ⟨B, hB⟩ : ∃ B, w.heap.size = B := ⟨_, rfl⟩
  have HBW := hid hB
  clear hi0 hi1 hi2 hi3 hF hI hB
  refine (callsIn_wide (n := 9)).1 ?_
  refine callsIn_of_wp_marks Try.func45 rfl trivial ?_ rfl
  simp only [Try.ntmps45, List.size_toArray, List.length_cons, List.length_nil, Nat.reduceAdd, Nat.reduceSub, Array.replicate_succ, Array.replicate_zero, List.push_toArray, List.append_toArray, List.nil_append, List.cons_append]
  refine wpIn_wide.2 ?_
  go_wp2_with fail
  go_loopw [5, 12] (fun v iv wr => ∃ i : Nat, i ≤ q0 ∧ iv = .int .i64 i ∧ Hid (RowW wr B v i (fun j => begun (X j)) ∧ Below B w wr)) (fun _ iv _ => q0 - (intOf iv).toNat)
  case atStart => exact ⟨0, Nat.zero_le _, rfl, hid ⟨World.ownsRow_nil _ _ _ _, Below.refl _ _⟩⟩
  case round =>
    obtain ⟨i, hi, rfl, HR⟩ := hrel
    obtain ⟨so, sc, rfl⟩ := row_slice HR.out.1
    by_cases hlt : i < q0
    · obtain ⟨b, off, e, hbl, hc⟩ := HI.out i hlt
      subst e
      have hbB : b < B := by have := HBW.out; omega
      have a0 := (HR.out.2.cell (p := ⟨b, off + i, none⟩) hbB).trans hc
      have hBs : B ≤ wr.heap.size := by have := HR.out.2.size; have := HBW.out; omega
      clear hc
      go_wp2_with (at_builtin; refine wpList_append_own _ rfl _ _ 61 rfl B 68 i0 (.agg #[.int .i64 0, .int .i64 0, .int .i64 0, .int .i64 0]) 4 32 Try.underlying61 HIN.out.1 HIN.out.2.1 HIN.out.2.2.1 HIN.out.2.2.2 rfl (by decide) _ _ _ rfl (HR.out.1.alloc _) ⟨wr.heap.size, 0, none⟩ 1 1 [.int .i64 (X i : Int), .int .i64 0, .int .i64 1, .int .i64 (-1)] rfl rfl ?c1 ?c2 ?c3 ?c4 ?c5 ?_)
      case c2 => first | (intro u hu; simp at hu; rcases hu with rfl | rfl | rfl | rfl <;> rfl) | simp [Value.oneCell']
      case c3 => unfold maxLen; omega
      case c4 => omega
      case c5 => first | omega | (simp; omega)
      intro v' w5 hown' hgrow _
      have hbel : Below B w w5 := (HR.out.2.alloc hBs _).grown hgrow (by simp; omega) (fun k hk => (HR.out.1.lt k hk).1)
      have HR5 : Hid (RowW w5 B v' (i + 1) (fun j => begun (X j)) ∧ Below B w w5) := hid ⟨by
        show w5.ownsRow B _ 4 v' (i + 1) (encW (i + 1) _)
        rw [encW_succ]
        exact hown', hbel⟩
      clear hown' hgrow hbel
      go_wp2_with fail
      go_roundw
      case rel => exact ⟨i + 1, by omega, by go_num, HR5⟩
      case measure => simp [intOf]; omega
    · obtain rfl : q0 = i := by omega
      obtain ⟨M, hM⟩ : ∃ M, wr.heap.size = M := ⟨_, rfl⟩
      have hBM : B ≤ M := by have := HR.out.2.size; have := HBW.out; omega
      have hb1 : Below wr.heap.size wr (wr.alloc (.cells (madeCells z4 (n * 4)) 68)) := (Below.refl _ _).alloc (Nat.le_refl _) _
      have hb2 : Below wr.heap.size wr ((wr.alloc (.cells (madeCells z4 (n * 4)) 68)).alloc (.cells #[.slice (some ⟨wr.heap.size, 0, none⟩) n n] 61)) := Joins.below_alloc2 _ _ _
      have HR8 := hid (row_stays HR.out.1 hb2)
      have HB8 := hid (HR.out.2.trans (hb2.mono (by omega)))
      have HX8 : Hid (((wr.alloc (.cells (madeCells z4 (n * 4)) 68)).alloc (.cells #[.slice (some ⟨wr.heap.size, 0, none⟩) n n] 61)).heap[M + 1]? = some (.cells #[.slice (some ⟨M, 0, none⟩) n n] 61 (0, 0))) := hid (by
        have := heap_new (wr.alloc (.cells (madeCells z4 (n * 4)) 68)) (.cells #[.slice (some ⟨wr.heap.size, 0, none⟩) n n] 61)
        rw [World.size_alloc, hM] at this
        rw [hM]
        exact this)
      have HW8 : Hid (RowW ((wr.alloc (.cells (madeCells z4 (n * 4)) 68)).alloc (.cells #[.slice (some ⟨wr.heap.size, 0, none⟩) n n] 61)) B (.slice (some ⟨M, 0, none⟩) n n) n (fun _ => nilW)) := hid (by
        refine ⟨encW_length _ _, .inr ⟨M, n, madeCells z4 (n * 4), rfl, hBM, ?_, Nat.le_refl _, by unfold maxLen; omega, by simp [size_madeCells], ?_⟩⟩
        · rw [← hM]
          exact (Below.heap_alloc _ _ _ (by simp)).trans (heap_new wr _)
        · rw [made_W]; exact List.take_of_length_le (by rw [encW_length]; exact Nat.le_refl _))
      have HG8 : Hid (∀ k, so = some k → ∃ g, k = ⟨g, 0, none⟩ ∧ g < M) := hid (fun k hk => by
        subst hk
        rcases HR.out.1.2 with ⟨h, _⟩ | ⟨g, cap, cur, e, _, hg, _⟩
        · cases h
        · cases e; exact ⟨g, rfl, by have := heap_lt hg; omega⟩)
      have hz8 : ((wr.alloc (.cells (madeCells z4 (n * 4)) 68)).alloc (.cells #[.slice (some ⟨wr.heap.size, 0, none⟩) n n] 61)).heap.size = M + 2 := by simp; omega
      have HSO : Hid (0 < q0 → ∃ k, so = some k) := hid (fun h => by
        obtain ⟨g, cap, e, _⟩ := HR.out.1.form h
        cases e; exact ⟨_, rfl⟩)
      clear hb1 hb2 HR hlt hi
      go_upto_region 8 with fail
      rw [hM] at *
      clear hM
      generalize World.alloc _ _ = w8 at HR8 HB8 HX8 HW8 hz8 ⊢
      go_wp2_with (go_at_call 58; refine (search_any n q0 sc so _ w8 67 #[.slice (some ⟨F, 0, none⟩) n fc] rfl).mono ?_; rintro e w' ⟨rfl, rfl⟩)
      have hb3 : Below w8.heap.size w8 (((w8.alloc (.cells #[.int .i64 (n : Int)] 3)).alloc (.cells #[.slice so q0 sc] 61)).alloc (.cells #[.func (.func 67) #[.slice (some ⟨F, 0, none⟩) n fc] #[]] 94)) := (Joins.below_alloc2 _ _ _).alloc (by rw [World.size_alloc, World.size_alloc]; omega) _
      have hz9 : (((w8.alloc (.cells #[.int .i64 (n : Int)] 3)).alloc (.cells #[.slice so q0 sc] 61)).alloc (.cells #[.func (.func 67) #[.slice (some ⟨F, 0, none⟩) n fc] #[]] 94)).heap.size = M + 5 := by rw [World.size_alloc, World.size_alloc, World.size_alloc, hz8]
      have hs0 : (((w8.alloc (.cells #[.int .i64 (n : Int)] 3)).alloc (.cells #[.slice so q0 sc] 61)).alloc (.cells #[.func (.func 67) #[.slice (some ⟨F, 0, none⟩) n fc] #[]] 94)).heap[M + 2]? = some (.cells #[.int .i64 (n : Int)] 3 (0, 0)) := by
        rw [← hz8]
        exact (Below.heap_alloc _ _ _ (by simp; omega)).trans ((Below.heap_alloc _ _ _ (by simp)).trans (heap_new _ _))
      have hs1 : (((w8.alloc (.cells #[.int .i64 (n : Int)] 3)).alloc (.cells #[.slice so q0 sc] 61)).alloc (.cells #[.func (.func 67) #[.slice (some ⟨F, 0, none⟩) n fc] #[]] 94)).heap[M + 2 + 1]? = some (.cells #[.slice so q0 sc] 61 (0, 0)) := by
        have := heap_new (w8.alloc (.cells #[.int .i64 (n : Int)] 3)) (.cells #[.slice so q0 sc] 61)
        rw [World.size_alloc, hz8] at this
        exact (Below.heap_alloc _ _ _ (by simp; omega)).trans this
      have hs2 : (((w8.alloc (.cells #[.int .i64 (n : Int)] 3)).alloc (.cells #[.slice so q0 sc] 61)).alloc (.cells #[.func (.func 67) #[.slice (some ⟨F, 0, none⟩) n fc] #[]] 94)).heap[M + 2 + 2]? = some (.cells #[.func (.func 67) #[.slice (some ⟨F, 0, none⟩) n fc] #[]] 94 (0, 0)) := by
        have := heap_new ((w8.alloc (.cells #[.int .i64 (n : Int)] 3)).alloc (.cells #[.slice so q0 sc] 61)) (.cells #[.func (.func 67) #[.slice (some ⟨F, 0, none⟩) n fc] #[]] 94)
        rw [World.size_alloc, World.size_alloc, hz8] at this
        exact this
      have hR9 := row_stays HR8.out hb3
      have HB9 := hid (HB8.out.trans (hb3.mono (by omega)))
      have HX9 := hid ((hb3.block (M + 1) (by omega)).trans HX8.out)
      have hW9 := row_stays HW8.out hb3
      clear hb3 HR8 HB8 HX8 HW8
      generalize ((w8.alloc (.cells #[.int .i64 (n : Int)] 3)).alloc (.cells #[.slice so q0 sc] 61)).alloc (.cells #[.func (.func 67) #[.slice (some ⟨F, 0, none⟩) n fc] #[]] 94) = w9 at hz9 hs0 hs1 hs2 hR9 HB9 HX9 hW9 ⊢
      have hSe : Se0 w9.heap.size B n q0 F fc (M + 2) (M + 2 + 1) (M + 2 + 2) G X so sc (fun k => k = w9.heap.size + 1 ∨ k = M) w9 := by
        refine ⟨hs0, hs1, hs2, fun j hj => ?_, (HBW.out ▸ HF.out.stays (fun k hk => HB9.out.block k (by have := HBW.out; omega)) : FM B n G F w9), by omega, Nat.le_refl _, by omega, by omega, by omega, fun k hk => by omega⟩
        obtain ⟨k, rfl⟩ := HSO.out (by omega)
        obtain ⟨g, rfl, hgM⟩ := HG8.out k rfl
        have hc := RowW.cell hR9 hj
        refine ⟨g, 0, rfl, by omega, by omega, ?_, ?_, ?_, ?_⟩
        · rw [Nat.zero_add]; exact hc.1
        · rw [Nat.zero_add]; exact hc.2.1
        · rw [Nat.zero_add]; exact hc.2.2.1
        · rw [Nat.zero_add]; exact hc.2.2.2
      have HSE := hid hSe
      have HW9 := hid hW9
      clear hSe hs0 hs1 hs2 hR9 hW9 HSO HG8 HI
      refine (wpIn_wide (n := 9)).1 ?_
      refine range_law (n := 9) (gf := 76) (lb := #[.pointer (some ⟨M + 2, 0, none⟩), .pointer (some ⟨M + 2 + 1, 0, none⟩), .pointer (some ⟨M + 2 + 2, 0, none⟩)]) rfl (enters_of Try.func76 (by kernel_rfl) rfl)
        (search1_seq 8 B n q0 F fc (M + 2) (M + 2 + 1) (M + 2 + 2) G X so sc (fun k => k = w9.heap.size + 1 ∨ k = M) w9 HSE.out hn hm hgm hX hq0) (fun k hk => by omega) (fun _ => rfl)
        (fun pre W => RowW W B (.slice (some ⟨M, 0, none⟩) n n) n (tbl pre) ∧ W.heap[M + 1]? = some (.cells #[.slice (some ⟨M, 0, none⟩) n n] 61 (0, 0)) ∧ Below B w W) (fun _ _ _ => False)
        (fun s A A' h hs hb => ⟨row_same h.1 (hb.block M (by omega)), (hb.block (M + 1) (by omega)).trans h.2.1, h.2.2.trans (hb.mono (by omega))⟩)
        (fun _ _ _ _ h _ _ => h) ⟨HW9.out, HX9.out, HB9.out⟩ ?round ?done ?stop
      case round =>
        rintro pre x W ⟨hrow, hbx, hbel⟩ hsz hrun
        have hcb := cand_bound (G := G) (q0 := q0) (M := 1000000000) (n := n) (X := X) hm hX hrun
        have hxn : x.nd < n := (hcb x (hrun.cand x (by simp))).2.2
        clear hcb
        gi_wp2
        refine ⟨KeepB.of_below ((Below.refl _ _).alloc (Nat.le_refl _) _), ?_⟩
        intro w2 hk2 hz2
        have hba : Below W.heap.size W (W.alloc (.cells #[.int .i64 x.nd, .int .i64 x.co, .int .i64 x.ns, .int .i64 x.nx] 68)) := (Below.refl _ _).alloc (Nat.le_refl _) _
        have hk3 := (KeepB.of_below hba : KeepB (fun k => k = w9.heap.size + 1) _ _).trans hk2
        have hE : w2.heap[W.heap.size]? = some (.cells #[.int .i64 x.nd, .int .i64 x.co, .int .i64 x.ns, .int .i64 x.nx] 68 (0, 0)) := (hk2.block _ (by simp) (by omega)).trans (heap_new _ _)
        have hrow2 := row_same hrow (hk3.block M (by omega) (by omega))
        have hbx2 := (hk3.block (M + 1) (by omega) (by omega)).trans hbx
        have hbel2 := hbel.trans (hk3.below (n := B) (by omega) (fun k hk => by omega))
        obtain ⟨e0, e1, e2, e3⟩ := cells_ofW x hE
        have c0 := cell_of_row w2 (M + 1) 0 _ _ _ hbx2
        simp only [List.getElem?_toArray, List.getElem?_cons_zero] at c0
        obtain ⟨r0, r1, r2, r3⟩ := RowW.cell hrow2 hxn
        have rf : ∀ j, w2.frozen? ⟨M, j, none⟩ = false := fun j => hrow2.frozenAt j
        have hput := RowW.put hrow2 x.nd x
        have hfin : KeepB (fun k => k = M) w2 ((((w2.setCell ⟨M, x.nd * 4, none⟩ (.int .i64 x.nd)).setCell ⟨M, x.nd * 4 + 1, none⟩ (.int .i64 x.co)).setCell ⟨M, x.nd * 4 + 2, none⟩ (.int .i64 x.ns)).setCell ⟨M, x.nd * 4 + 3, none⟩ (.int .i64 x.nx)) :=
          ⟨rfl, rfl, rfl, by simp [World.setCell], fun k _ hn => put_other _ _ _ _ _ _ _ _ hn⟩
        have hI2 : RowW ((((w2.setCell ⟨M, x.nd * 4, none⟩ (.int .i64 x.nd)).setCell ⟨M, x.nd * 4 + 1, none⟩ (.int .i64 x.co)).setCell ⟨M, x.nd * 4 + 2, none⟩ (.int .i64 x.ns)).setCell ⟨M, x.nd * 4 + 3, none⟩ (.int .i64 x.nx)) B (.slice (some ⟨M, 0, none⟩) n n) n (tbl (pre ++ [x])) := by rw [tbl_snoc]; exact hput
        have hend : KeepB (fun k => k = M) w2 _ ∧ RowW _ B (.slice (some ⟨M, 0, none⟩) n n) n (tbl (pre ++ [x])) ∧ _ ∧ Below B w _ := ⟨hfin, hI2, (hfin.block (M + 1) (heap_lt hbx2) (by omega)).trans hbx2, hbel2.trans (hfin.below (n := B) (by have := hbel2.size; have := HBW.out; omega) (fun k hk => by omega))⟩
        have HEND := hid hend
        clear hend hI2 hfin hput hbel2 hbx2 hrow2 hE hk3 hba hk2 hrow hbx hbel hrun
        gi_wp2
        exact HEND.out
      case done =>
        rintro xs W ⟨hrun, hfin⟩ ⟨hrow, hbx, hbel⟩ hsz hD
        have c0 := cell_of_row W (M + 1) 0 _ _ _ hbx
        simp only [List.getElem?_toArray, List.getElem?_cons_zero] at c0
        go_wp2_with fail
        refine ⟨by simp, .inl ⟨_, _, rfl, run_takeDeferred hD, ?_⟩⟩
        refine ⟨_, results_tmp rfl _ _ _, M, xs, rfl, hrun, hfin, ?_, ?_⟩
        · rw [HBW.out]
          exact row_same hrow (World.putObj_heap_other (by omega))
        · rw [HBW.out]
          exact hbel.trans ((keepB_putObj W w9.heap.size _).below (by have := hbel.size; have := HBW.out; omega) (fun k hk e => by omega))
      case stop => intro c pre W _ h; exact h.elim
end Go.Proofs.Ytokpdjdpeaccbaa
