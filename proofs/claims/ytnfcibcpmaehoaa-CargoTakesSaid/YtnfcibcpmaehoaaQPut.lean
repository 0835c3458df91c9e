/-
  The walk of Put of the reference, where no mark is met twice.
-/
import Derived.Test.YtnfcibcpmaehoaaQAp
import Derived.Test.YtnfcibcpmaehoaaQCmp
import Derived.Deep.CutBlock
namespace Go.Proofs.Ytnfcibcpmaehoaa
open Go.RowKit

theorem put_keep {Z X b yo : Nat} {p y : Par} {wr w1 w2 : World} (h : (Below Z wr w1 ∧ X < w1.heap.size ∧ b < w1.heap.size) ∧ (w1.cell? ⟨X, 0, none⟩ = some (.int .i64 p.k) ∧ w1.cell? ⟨X, 1, none⟩ = some (.int .i64 p.f) ∧ w1.cell? ⟨X, 2, none⟩ = some (.int .i64 p.t) ∧ w1.cell? ⟨X, 3, none⟩ = some (.int .i64 p.a) ∧ w1.cell? ⟨X, 4, none⟩ = some (.int .i64 p.c) ∧ w1.cell? ⟨X, 5, none⟩ = some (.int .i64 p.s)) ∧ (w1.cell? ⟨b, yo, none⟩ = some (.int .i64 y.k) ∧ w1.cell? ⟨b, yo + 1, none⟩ = some (.int .i64 y.f) ∧ w1.cell? ⟨b, yo + 2, none⟩ = some (.int .i64 y.t) ∧ w1.cell? ⟨b, yo + 3, none⟩ = some (.int .i64 y.a) ∧ w1.cell? ⟨b, yo + 4, none⟩ = some (.int .i64 y.c) ∧ w1.cell? ⟨b, yo + 5, none⟩ = some (.int .i64 y.s))) (hb : Below w1.heap.size w1 w2) (hB : Z ≤ wr.heap.size) : (Below Z wr w2 ∧ X < w2.heap.size ∧ b < w2.heap.size) ∧ (w2.cell? ⟨X, 0, none⟩ = some (.int .i64 p.k) ∧ w2.cell? ⟨X, 1, none⟩ = some (.int .i64 p.f) ∧ w2.cell? ⟨X, 2, none⟩ = some (.int .i64 p.t) ∧ w2.cell? ⟨X, 3, none⟩ = some (.int .i64 p.a) ∧ w2.cell? ⟨X, 4, none⟩ = some (.int .i64 p.c) ∧ w2.cell? ⟨X, 5, none⟩ = some (.int .i64 p.s)) ∧ (w2.cell? ⟨b, yo, none⟩ = some (.int .i64 y.k) ∧ w2.cell? ⟨b, yo + 1, none⟩ = some (.int .i64 y.f) ∧ w2.cell? ⟨b, yo + 2, none⟩ = some (.int .i64 y.t) ∧ w2.cell? ⟨b, yo + 3, none⟩ = some (.int .i64 y.a) ∧ w2.cell? ⟨b, yo + 4, none⟩ = some (.int .i64 y.c) ∧ w2.cell? ⟨b, yo + 5, none⟩ = some (.int .i64 y.s)) := by
  obtain ⟨⟨h1, h2, h3⟩, ⟨c0, c1, c2, c3, c4, c5⟩, d0, d1, d2, d3, d4, d5⟩ := h
  have hBs : Z ≤ w1.heap.size := Nat.le_trans hB h1.size
  exact ⟨⟨h1.trans (hb.mono hBs), by have := hb.size; omega, by have := hb.size; omega⟩, ⟨(hb.cell (p := ⟨X, 0, none⟩) h2).trans c0, (hb.cell (p := ⟨X, 1, none⟩) h2).trans c1, (hb.cell (p := ⟨X, 2, none⟩) h2).trans c2, (hb.cell (p := ⟨X, 3, none⟩) h2).trans c3, (hb.cell (p := ⟨X, 4, none⟩) h2).trans c4, (hb.cell (p := ⟨X, 5, none⟩) h2).trans c5⟩, (hb.cell (p := ⟨b, yo, none⟩) h3).trans d0, (hb.cell (p := ⟨b, yo + 1, none⟩) h3).trans d1, (hb.cell (p := ⟨b, yo + 2, none⟩) h3).trans d2, (hb.cell (p := ⟨b, yo + 3, none⟩) h3).trans d3, (hb.cell (p := ⟨b, yo + 4, none⟩) h3).trans d4, (hb.cell (p := ⟨b, yo + 5, none⟩) h3).trans d5⟩
set_option maxRecDepth 100000 in
set_option maxHeartbeats 12800000 in
theorem put_any (TA TC : List Par) (p : Par) (hA : ∀ y ∈ TA, lt4 y p) (hC : ∀ y ∈ TC, lt4 p y) (hn : (TA ++ TC).length ≤ 1000) (lo : Option Addr) (lc : Nat) (hcap : (TA ++ TC).length ≤ lc) (hnil : lo = none → lc = 0) (hemp : (TA ++ TC).length = 0 → lo = none) (w : World) (hP : Pars w lo (TA ++ TC).length (lf (TA ++ TC))) :
    Calls Try.prog 57 #[.slice lo (TA ++ TC).length lc, pv p] w fun e w' => ∃ vo c, e = .returned (.slice vo (TA ++ p :: TC).length c) ∧ RowL w' w.heap.size (.slice vo (TA ++ p :: TC).length c) (TA ++ p :: TC) ∧ Below w.heap.size w w' := by
  obtain ⟨X, hX⟩ : ∃ X, w.heap.size = X := ⟨_, rfl⟩
  obtain ⟨i, hi⟩ : ∃ i, TA.length = i := ⟨_, rfl⟩
  obtain ⟨N, hN⟩ : ∃ N, (TA ++ TC).length = N := ⟨_, rfl⟩
  have hiN : i ≤ N := by rw [← hi, ← hN, List.length_append]; omega
  have HB0 : Hid (Below X w (w.alloc (.cells #[.int .i64 p.k, .int .i64 p.f, .int .i64 p.t, .int .i64 p.a, .int .i64 p.c, .int .i64 p.s] 36))) := hid ((Below.refl _ w).alloc (by omega) _)
  have HBX : Hid ((w.alloc (.cells #[.int .i64 p.k, .int .i64 p.f, .int .i64 p.t, .int .i64 p.a, .int .i64 p.c, .int .i64 p.s] 36)).heap[X]? = some (.cells #[.int .i64 p.k, .int .i64 p.f, .int .i64 p.t, .int .i64 p.a, .int .i64 p.c, .int .i64 p.s] 36 (0, 0))) := hid (by rw [← hX]; exact heap_new _ _)
  have HXW := hid hX
  rw [hN] at hP hn hcap hemp
  have HEMP := hid hemp
  have HP : Hid (∀ wr, Below X w wr → Pars wr lo N (lf (TA ++ TC))) := hid (fun wr hb => hP.stays (by rw [hX]; exact hb))
  have HPX : Hid (∀ j, j < N → ∃ b off : Nat, lo = some ⟨b, off, none⟩ ∧ b < X) := hid (fun j hj => by obtain ⟨b, off, e, hb, _⟩ := hP j hj; exact ⟨b, off, e, by omega⟩)
  have HA : Hid (∀ j, j < i → lt4 (lf (TA ++ TC) j) p) := hid (fun j hj => by rw [lf_left _ _ (by omega), lf_at _ (by omega)]; exact hA _ (List.getElem_mem (by omega)))
  have HC : Hid (∀ j, i ≤ j → j < N → lt4 p (lf (TA ++ TC) j)) := hid (fun j h1 h2 => by
    have e : j = TA.length + (j - i) := by omega
    have hl : j - i < TC.length := by rw [← hN, List.length_append] at h2; omega
    rw [e, lf_right _ _ hl, lf_at _ hl]; exact hC _ (List.getElem_mem hl))
  have HCAP := hid (And.intro hcap hnil)
  have HIN := hid (And.intro hi hN)
  rw [hX]
  rw [hN]
  obtain ⟨LQ, hLQ⟩ : ∃ LQ, TA ++ p :: TC = LQ := ⟨_, rfl⟩
  have HLQ := hid hLQ
  rw [hLQ]
  clear hLQ
  clear hP hA hC hi hN hcap hnil hemp
  go_enter Try.func57, Try.ntmps57
  go_upto_region 1 with fail
  clear hX
  generalize World.alloc _ _ = w1 at HB0 HBX ⊢
  go_upto_block 0 with fail
  go_cut [5] (fun iv wr => iv = .int .i64 i ∧ Hid (Below X w wr ∧ wr.heap[X]? = some (.cells #[.int .i64 p.k, .int .i64 p.f, .int .i64 p.t, .int .i64 p.a, .int .i64 p.c, .int .i64 p.s] 36 (0, 0))))
  case first =>
    go_wp2_with fail
    go_loopw [5] (fun iv wr => ∃ j : Nat, j ≤ i ∧ iv = .int .i64 j ∧ Hid (Below X w wr ∧ wr.heap[X]? = some (.cells #[.int .i64 p.k, .int .i64 p.f, .int .i64 p.t, .int .i64 p.a, .int .i64 p.c, .int .i64 p.s] 36 (0, 0)))) (fun iv _ => i - (intOf iv).toNat)
    case atStart => exact ⟨0, Nat.zero_le _, rfl, hid ⟨HB0.out, HBX.out⟩⟩
    case round =>
      clear HB0 HBX
      obtain ⟨j, hj, rfl, HS⟩ := hrel
      by_cases hjN : j < N
      · obtain ⟨b, off, e, hbX⟩ := HPX.out j hjN
        subst e
        obtain ⟨b', off', e, hbl, a0, a1, a2, a3, a4, a5⟩ := HP.out wr HS.out.1 j hjN
        cases e
        have hjN2 : (j : Int) < (N : Int) := by omega
        have j0 : (0 : Int) ≤ (j : Int) := by omega
        obtain ⟨y, hy⟩ : ∃ y, lf (TA ++ TC) j = y := ⟨_, rfl⟩
        rw [hy] at a0 a1 a2 a3 a4 a5
        obtain ⟨yo, hyo⟩ : ∃ yo, off + j * 6 = yo := ⟨_, rfl⟩
        rw [hyo] at a0 a1 a2 a3 a4 a5
        have wj : IntKind.i64.wrap ((j : Int) + 1) = ((j + 1 : Nat) : Int) := by rw [IntKind.wrap_i64]; omega
        obtain ⟨Z, hZ⟩ : ∃ Z, wr.heap.size = Z := ⟨_, rfl⟩
        have HZ := hid hZ
        have hZZ : Z ≤ wr.heap.size := Nat.le_of_eq hZ.symm
        have hXl := heap_lt HS.out.2
        have HBR := hid HS.out.1
        have HBXR := hid HS.out.2
        have HS1 : Hid ((Below Z wr wr ∧ X < wr.heap.size ∧ b < wr.heap.size) ∧ (wr.cell? ⟨X, 0, none⟩ = some (.int .i64 p.k) ∧ wr.cell? ⟨X, 1, none⟩ = some (.int .i64 p.f) ∧ wr.cell? ⟨X, 2, none⟩ = some (.int .i64 p.t) ∧ wr.cell? ⟨X, 3, none⟩ = some (.int .i64 p.a) ∧ wr.cell? ⟨X, 4, none⟩ = some (.int .i64 p.c) ∧ wr.cell? ⟨X, 5, none⟩ = some (.int .i64 p.s)) ∧ (wr.cell? ⟨b, yo, none⟩ = some (.int .i64 y.k) ∧ wr.cell? ⟨b, yo + 1, none⟩ = some (.int .i64 y.f) ∧ wr.cell? ⟨b, yo + 2, none⟩ = some (.int .i64 y.t) ∧ wr.cell? ⟨b, yo + 3, none⟩ = some (.int .i64 y.a) ∧ wr.cell? ⟨b, yo + 4, none⟩ = some (.int .i64 y.c) ∧ wr.cell? ⟨b, yo + 5, none⟩ = some (.int .i64 y.s))) := hid ⟨⟨Below.refl _ _, hXl, hbl⟩, ⟨cell_of_row _ _ 0 _ _ _ HS.out.2, cell_of_row _ _ 1 _ _ _ HS.out.2, cell_of_row _ _ 2 _ _ _ HS.out.2, cell_of_row _ _ 3 _ _ _ HS.out.2, cell_of_row _ _ 4 _ _ _ HS.out.2, cell_of_row _ _ 5 _ _ _ HS.out.2⟩, a0, a1, a2, a3, a4, a5⟩
        by_cases hji : j < i
        · have HLS := hid (fun W => less_any y p true (decide_eq_true (by rw [← hy]; exact HA.out j hji)) W)
          clear hy hbl hZ hXl a0 a1 a2 a3 a4 a5 HS hbX
          go_upto_region 2 with fail
          refine wp_region_held_drew (S := (fun wx => (Below Z wr wx ∧ X < wx.heap.size ∧ b < wx.heap.size) ∧ (wx.cell? ⟨X, 0, none⟩ = some (.int .i64 p.k) ∧ wx.cell? ⟨X, 1, none⟩ = some (.int .i64 p.f) ∧ wx.cell? ⟨X, 2, none⟩ = some (.int .i64 p.t) ∧ wx.cell? ⟨X, 3, none⟩ = some (.int .i64 p.a) ∧ wx.cell? ⟨X, 4, none⟩ = some (.int .i64 p.c) ∧ wx.cell? ⟨X, 5, none⟩ = some (.int .i64 p.s)) ∧ (wx.cell? ⟨b, yo, none⟩ = some (.int .i64 y.k) ∧ wx.cell? ⟨b, yo + 1, none⟩ = some (.int .i64 y.f) ∧ wx.cell? ⟨b, yo + 2, none⟩ = some (.int .i64 y.t) ∧ wx.cell? ⟨b, yo + 3, none⟩ = some (.int .i64 y.a) ∧ wx.cell? ⟨b, yo + 4, none⟩ = some (.int .i64 y.c) ∧ wx.cell? ⟨b, yo + 5, none⟩ = some (.int .i64 y.s)))) (by kernel_rfl) (put_keep HS1.out ((Below.refl _ _).drew) hZZ) (fun hHeld => ?_)
          refine wpAnyH_take (i := 0) (oi := { dst := some 8, op := Op.move (Operand.tmp 5), type := 3, pos := "ref.go:89", after := #[], guard := none }) (v := ?_) rfl (by kernel_rfl) (by kernel_rfl) (by kernel_rfl) (fun _ _ _ h => h) (Or.inl ⟨by rfl, ?_⟩) (by assumption) ?_
          rotate_left
          · intro w hSw; (try dsimp only at hSw); go_simp; try (with_reducible rfl)
          try simp only [Act.put, List.setIfInBounds_toArray, List.set_cons_zero, List.set_cons_succ]
          refine wpAnyH_take (i := 1) (oi := { dst := some 9, op := Op.move (Operand.tmp 0), type := 22, pos := "ref.go:89", after := #[], guard := none }) (v := ?_) rfl (by kernel_rfl) (by kernel_rfl) (by kernel_rfl) (fun _ _ _ h => h) (Or.inl ⟨by rfl, ?_⟩) (by assumption) ?_
          rotate_left
          · intro w hSw; (try dsimp only at hSw); go_simp; try (with_reducible rfl)
          try simp only [Act.put, List.setIfInBounds_toArray, List.set_cons_zero, List.set_cons_succ]
          refine wpAnyH_take (i := 2) (oi := { dst := some 10, op := Op.call { callee := Callee.builtin Builtin.len, args := #[Operand.tmp 9], argTypes := #[22] }, type := 3, pos := "ref.go:89", after := #[{ on := 1, ground := Ground.data }], guard := none }) (v := ?_) rfl (by kernel_rfl) (by kernel_rfl) (by kernel_rfl) (fun _ _ _ h => h) (Or.inl ⟨by rfl, ?_⟩) (by assumption) ?_
          rotate_left
          · intro w hSw; (try dsimp only at hSw); go_simp; try (with_reducible rfl)
          try simp only [Act.put, List.setIfInBounds_toArray, List.set_cons_zero, List.set_cons_succ]
          refine wpAnyH_take (i := 3) (oi := { dst := some 11, op := Op.binOp BinOp.lss 3 (Operand.tmp 8) (Operand.tmp 10) 3, type := 4, pos := "ref.go:89", after := #[{ on := 0, ground := Ground.data }, { on := 2, ground := Ground.data }], guard := none }) (v := ?_) rfl (by kernel_rfl) (by kernel_rfl) (by kernel_rfl) (fun _ _ _ h => h) (Or.inl ⟨by rfl, ?_⟩) (by assumption) ?_
          rotate_left
          · intro w hSw; (try dsimp only at hSw); go_simp; try (with_reducible rfl)
          try simp only [Act.put, List.setIfInBounds_toArray, List.set_cons_zero, List.set_cons_succ]
          refine wpAnyH_take (i := 4) (oi := { dst := some 12, op := Op.move (Operand.tmp 11), type := 4, pos := "ref.go:89", after := #[{ on := 3, ground := Ground.data }], guard := none }) (v := ?_) rfl (by kernel_rfl) (by kernel_rfl) (by kernel_rfl) (fun _ _ _ h => h) (Or.inl ⟨by rfl, ?_⟩) (by assumption) ?_
          rotate_left
          · intro w hSw; (try dsimp only at hSw); go_simp; try (with_reducible rfl)
          try simp only [Act.put, List.setIfInBounds_toArray, List.set_cons_zero, List.set_cons_succ]
          refine wpAnyH_take (i := 5) (oi := { dst := some 13, op := Op.move (Operand.tmp 0), type := 22, pos := "ref.go:89", after := #[{ on := 4, ground := Ground.guard }], guard := some (4, true) }) (v := ?_) rfl (by kernel_rfl) (by kernel_rfl) (by kernel_rfl) (fun _ _ _ h => h) (Or.inl ⟨by rfl, ?_⟩) (by assumption) ?_
          rotate_left
          · intro w hSw; (try dsimp only at hSw); go_simp; try (with_reducible rfl)
          try simp only [Act.put, List.setIfInBounds_toArray, List.set_cons_zero, List.set_cons_succ]
          refine wpAnyH_take (i := 6) (oi := { dst := some 14, op := Op.move (Operand.tmp 5), type := 3, pos := "ref.go:89", after := #[{ on := 4, ground := Ground.guard }], guard := some (4, true) }) (v := ?_) rfl (by kernel_rfl) (by kernel_rfl) (by kernel_rfl) (fun _ _ _ h => h) (Or.inl ⟨by rfl, ?_⟩) (by assumption) ?_
          rotate_left
          · intro w hSw; (try dsimp only at hSw); go_simp; try (with_reducible rfl)
          try simp only [Act.put, List.setIfInBounds_toArray, List.set_cons_zero, List.set_cons_succ]
          refine wpAnyH_take (i := 7) (oi := { dst := some 15, op := Op.indexAddr 22 (Operand.tmp 13) (Operand.tmp 14), type := 0, pos := "ref.go:89", after := #[{ on := 5, ground := Ground.data }, { on := 6, ground := Ground.data }, { on := 4, ground := Ground.guard }], guard := some (4, true) }) (v := ?_) rfl (by kernel_rfl) (by kernel_rfl) (by kernel_rfl) (fun _ _ _ h => h) (Or.inl ⟨by rfl, ?_⟩) (by assumption) ?_
          rotate_left
          · intro w hSw; (try dsimp only at hSw); go_simp; try (with_reducible rfl)
          try simp only [Act.put, List.setIfInBounds_toArray, List.set_cons_zero, List.set_cons_succ]
          refine wpAnyH_take (i := 8) (oi := { dst := some 16, op := Op.load 36 (Operand.tmp 15), type := 36, pos := "ref.go:89", after := #[{ on := 7, ground := Ground.data }, { on := 4, ground := Ground.guard }], guard := some (4, true) }) (v := ?_) rfl (by kernel_rfl) (by kernel_rfl) (by kernel_rfl) (fun _ _ _ h => h) (Or.inl ⟨by rfl, ?_⟩) (by assumption) ?_
          rotate_left
          · intro w hSw; (try dsimp only at hSw); go_simp; try (with_reducible rfl)
          try simp only [Act.put, List.setIfInBounds_toArray, List.set_cons_zero, List.set_cons_succ]
          refine wpAnyH_take (i := 9) (oi := { dst := some 17, op := Op.load 36 (Operand.tmp 3), type := 36, pos := "ref.go:89", after := #[{ on := 4, ground := Ground.guard }], guard := some (4, true) }) (v := ?_) rfl (by kernel_rfl) (by kernel_rfl) (by kernel_rfl) (fun _ _ _ h => h) (Or.inl ⟨by rfl, ?_⟩) (by assumption) ?_
          rotate_left
          · intro w hSw; (try dsimp only at hSw); go_simp; try (with_reducible rfl)
          try simp only [Act.put, List.setIfInBounds_toArray, List.set_cons_zero, List.set_cons_succ]
          refine wpAnyH_ready (rs := [10]) (by kernel_rfl) (by simp) ?_
          refine AllReadyH.cons (o := { dst := some 18, op := Op.call { callee := Callee.value (Operand.func 42), args := #[Operand.tmp 16, Operand.tmp 17], argTypes := #[36, 36] }, type := 4, pos := "ref.go:89", after := #[{ on := 8, ground := Ground.data }, { on := 9, ground := Ground.data }, { on := 4, ground := Ground.chain }, { on := 4, ground := Ground.guard }], guard := some (4, true) }) rfl (fun K hK => ?_) AllReadyH.nil
          go_simp
          refine (HLS.out _).mono ?_
          rintro e w5 ⟨rfl, hb⟩
          try go_wp2_with fail
          refine hK.out _ _ (put_keep (by assumption) hb hZZ) (fun hHeld2 => ?_)
          clear hK K
          try simp only [Act.put, List.setIfInBounds_toArray, List.set_cons_zero, List.set_cons_succ]
          refine wpAnyH_take (i := 11) (oi := { dst := some 19, op := Op.pick (Operand.tmp 12) (Operand.tmp 18) (Operand.const (Value.bool false)), type := 4, pos := "ref.go:89", after := #[{ on := 4, ground := Ground.data }, { on := 10, ground := Ground.data }], guard := none }) (v := ?_) rfl (by kernel_rfl) (by kernel_rfl) (by kernel_rfl) (fun _ _ _ h => h) (Or.inl ⟨by rfl, ?_⟩) (by assumption) ?_
          rotate_left
          · intro w hSw; (try dsimp only at hSw); go_simp; try (with_reducible rfl)
          try simp only [Act.put, List.setIfInBounds_toArray, List.set_cons_zero, List.set_cons_succ]
          refine wpAnyH_done (by kernel_rfl) ?_ _
          have hbw := hHeld2.1.1
          have HB5 := hid (HBR.out.trans (hbw.mono (by rw [HXW.out.symm, ← HZ.out]; exact HBR.out.size)))
          have HX5 := hid ((hbw.block X (by have := heap_lt HBXR.out; have := HZ.out; omega)).trans HBXR.out)
          clear hHeld hHeld2 hbw HS1 HBR HBXR
          go_wp2_with fail
          go_roundw
          case rel => exact ⟨j + 1, by omega, by go_num, hid ⟨HB5.out, HX5.out⟩⟩
          case measure => simp [intOf]; omega
        · obtain rfl : j = i := by omega
          have HLS := hid (fun W => less_any y p false (decide_eq_false (by rw [← hy]; exact (HC.out j (Nat.le_refl _) hjN).asymm)) W)
          clear hy hbl hZ hXl a0 a1 a2 a3 a4 a5 HS hbX
          go_upto_region 2 with fail
          refine wp_region_held_drew (S := (fun wx => (Below Z wr wx ∧ X < wx.heap.size ∧ b < wx.heap.size) ∧ (wx.cell? ⟨X, 0, none⟩ = some (.int .i64 p.k) ∧ wx.cell? ⟨X, 1, none⟩ = some (.int .i64 p.f) ∧ wx.cell? ⟨X, 2, none⟩ = some (.int .i64 p.t) ∧ wx.cell? ⟨X, 3, none⟩ = some (.int .i64 p.a) ∧ wx.cell? ⟨X, 4, none⟩ = some (.int .i64 p.c) ∧ wx.cell? ⟨X, 5, none⟩ = some (.int .i64 p.s)) ∧ (wx.cell? ⟨b, yo, none⟩ = some (.int .i64 y.k) ∧ wx.cell? ⟨b, yo + 1, none⟩ = some (.int .i64 y.f) ∧ wx.cell? ⟨b, yo + 2, none⟩ = some (.int .i64 y.t) ∧ wx.cell? ⟨b, yo + 3, none⟩ = some (.int .i64 y.a) ∧ wx.cell? ⟨b, yo + 4, none⟩ = some (.int .i64 y.c) ∧ wx.cell? ⟨b, yo + 5, none⟩ = some (.int .i64 y.s)))) (by kernel_rfl) (put_keep HS1.out ((Below.refl _ _).drew) hZZ) (fun hHeld => ?_)
          refine wpAnyH_take (i := 0) (oi := { dst := some 8, op := Op.move (Operand.tmp 5), type := 3, pos := "ref.go:89", after := #[], guard := none }) (v := ?_) rfl (by kernel_rfl) (by kernel_rfl) (by kernel_rfl) (fun _ _ _ h => h) (Or.inl ⟨by rfl, ?_⟩) (by assumption) ?_
          rotate_left
          · intro w hSw; (try dsimp only at hSw); go_simp; try (with_reducible rfl)
          try simp only [Act.put, List.setIfInBounds_toArray, List.set_cons_zero, List.set_cons_succ]
          refine wpAnyH_take (i := 1) (oi := { dst := some 9, op := Op.move (Operand.tmp 0), type := 22, pos := "ref.go:89", after := #[], guard := none }) (v := ?_) rfl (by kernel_rfl) (by kernel_rfl) (by kernel_rfl) (fun _ _ _ h => h) (Or.inl ⟨by rfl, ?_⟩) (by assumption) ?_
          rotate_left
          · intro w hSw; (try dsimp only at hSw); go_simp; try (with_reducible rfl)
          try simp only [Act.put, List.setIfInBounds_toArray, List.set_cons_zero, List.set_cons_succ]
          refine wpAnyH_take (i := 2) (oi := { dst := some 10, op := Op.call { callee := Callee.builtin Builtin.len, args := #[Operand.tmp 9], argTypes := #[22] }, type := 3, pos := "ref.go:89", after := #[{ on := 1, ground := Ground.data }], guard := none }) (v := ?_) rfl (by kernel_rfl) (by kernel_rfl) (by kernel_rfl) (fun _ _ _ h => h) (Or.inl ⟨by rfl, ?_⟩) (by assumption) ?_
          rotate_left
          · intro w hSw; (try dsimp only at hSw); go_simp; try (with_reducible rfl)
          try simp only [Act.put, List.setIfInBounds_toArray, List.set_cons_zero, List.set_cons_succ]
          refine wpAnyH_take (i := 3) (oi := { dst := some 11, op := Op.binOp BinOp.lss 3 (Operand.tmp 8) (Operand.tmp 10) 3, type := 4, pos := "ref.go:89", after := #[{ on := 0, ground := Ground.data }, { on := 2, ground := Ground.data }], guard := none }) (v := ?_) rfl (by kernel_rfl) (by kernel_rfl) (by kernel_rfl) (fun _ _ _ h => h) (Or.inl ⟨by rfl, ?_⟩) (by assumption) ?_
          rotate_left
          · intro w hSw; (try dsimp only at hSw); go_simp; try (with_reducible rfl)
          try simp only [Act.put, List.setIfInBounds_toArray, List.set_cons_zero, List.set_cons_succ]
          refine wpAnyH_take (i := 4) (oi := { dst := some 12, op := Op.move (Operand.tmp 11), type := 4, pos := "ref.go:89", after := #[{ on := 3, ground := Ground.data }], guard := none }) (v := ?_) rfl (by kernel_rfl) (by kernel_rfl) (by kernel_rfl) (fun _ _ _ h => h) (Or.inl ⟨by rfl, ?_⟩) (by assumption) ?_
          rotate_left
          · intro w hSw; (try dsimp only at hSw); go_simp; try (with_reducible rfl)
          try simp only [Act.put, List.setIfInBounds_toArray, List.set_cons_zero, List.set_cons_succ]
          refine wpAnyH_take (i := 5) (oi := { dst := some 13, op := Op.move (Operand.tmp 0), type := 22, pos := "ref.go:89", after := #[{ on := 4, ground := Ground.guard }], guard := some (4, true) }) (v := ?_) rfl (by kernel_rfl) (by kernel_rfl) (by kernel_rfl) (fun _ _ _ h => h) (Or.inl ⟨by rfl, ?_⟩) (by assumption) ?_
          rotate_left
          · intro w hSw; (try dsimp only at hSw); go_simp; try (with_reducible rfl)
          try simp only [Act.put, List.setIfInBounds_toArray, List.set_cons_zero, List.set_cons_succ]
          refine wpAnyH_take (i := 6) (oi := { dst := some 14, op := Op.move (Operand.tmp 5), type := 3, pos := "ref.go:89", after := #[{ on := 4, ground := Ground.guard }], guard := some (4, true) }) (v := ?_) rfl (by kernel_rfl) (by kernel_rfl) (by kernel_rfl) (fun _ _ _ h => h) (Or.inl ⟨by rfl, ?_⟩) (by assumption) ?_
          rotate_left
          · intro w hSw; (try dsimp only at hSw); go_simp; try (with_reducible rfl)
          try simp only [Act.put, List.setIfInBounds_toArray, List.set_cons_zero, List.set_cons_succ]
          refine wpAnyH_take (i := 7) (oi := { dst := some 15, op := Op.indexAddr 22 (Operand.tmp 13) (Operand.tmp 14), type := 0, pos := "ref.go:89", after := #[{ on := 5, ground := Ground.data }, { on := 6, ground := Ground.data }, { on := 4, ground := Ground.guard }], guard := some (4, true) }) (v := ?_) rfl (by kernel_rfl) (by kernel_rfl) (by kernel_rfl) (fun _ _ _ h => h) (Or.inl ⟨by rfl, ?_⟩) (by assumption) ?_
          rotate_left
          · intro w hSw; (try dsimp only at hSw); go_simp; try (with_reducible rfl)
          try simp only [Act.put, List.setIfInBounds_toArray, List.set_cons_zero, List.set_cons_succ]
          refine wpAnyH_take (i := 8) (oi := { dst := some 16, op := Op.load 36 (Operand.tmp 15), type := 36, pos := "ref.go:89", after := #[{ on := 7, ground := Ground.data }, { on := 4, ground := Ground.guard }], guard := some (4, true) }) (v := ?_) rfl (by kernel_rfl) (by kernel_rfl) (by kernel_rfl) (fun _ _ _ h => h) (Or.inl ⟨by rfl, ?_⟩) (by assumption) ?_
          rotate_left
          · intro w hSw; (try dsimp only at hSw); go_simp; try (with_reducible rfl)
          try simp only [Act.put, List.setIfInBounds_toArray, List.set_cons_zero, List.set_cons_succ]
          refine wpAnyH_take (i := 9) (oi := { dst := some 17, op := Op.load 36 (Operand.tmp 3), type := 36, pos := "ref.go:89", after := #[{ on := 4, ground := Ground.guard }], guard := some (4, true) }) (v := ?_) rfl (by kernel_rfl) (by kernel_rfl) (by kernel_rfl) (fun _ _ _ h => h) (Or.inl ⟨by rfl, ?_⟩) (by assumption) ?_
          rotate_left
          · intro w hSw; (try dsimp only at hSw); go_simp; try (with_reducible rfl)
          try simp only [Act.put, List.setIfInBounds_toArray, List.set_cons_zero, List.set_cons_succ]
          refine wpAnyH_ready (rs := [10]) (by kernel_rfl) (by simp) ?_
          refine AllReadyH.cons (o := { dst := some 18, op := Op.call { callee := Callee.value (Operand.func 42), args := #[Operand.tmp 16, Operand.tmp 17], argTypes := #[36, 36] }, type := 4, pos := "ref.go:89", after := #[{ on := 8, ground := Ground.data }, { on := 9, ground := Ground.data }, { on := 4, ground := Ground.chain }, { on := 4, ground := Ground.guard }], guard := some (4, true) }) rfl (fun K hK => ?_) AllReadyH.nil
          go_simp
          refine (HLS.out _).mono ?_
          rintro e w5 ⟨rfl, hb⟩
          try go_wp2_with fail
          refine hK.out _ _ (put_keep (by assumption) hb hZZ) (fun hHeld2 => ?_)
          clear hK K
          try simp only [Act.put, List.setIfInBounds_toArray, List.set_cons_zero, List.set_cons_succ]
          refine wpAnyH_take (i := 11) (oi := { dst := some 19, op := Op.pick (Operand.tmp 12) (Operand.tmp 18) (Operand.const (Value.bool false)), type := 4, pos := "ref.go:89", after := #[{ on := 4, ground := Ground.data }, { on := 10, ground := Ground.data }], guard := none }) (v := ?_) rfl (by kernel_rfl) (by kernel_rfl) (by kernel_rfl) (fun _ _ _ h => h) (Or.inl ⟨by rfl, ?_⟩) (by assumption) ?_
          rotate_left
          · intro w hSw; (try dsimp only at hSw); go_simp; try (with_reducible rfl)
          try simp only [Act.put, List.setIfInBounds_toArray, List.set_cons_zero, List.set_cons_succ]
          refine wpAnyH_done (by kernel_rfl) ?_ _
          have hbw := hHeld2.1.1
          have HB5 := hid (HBR.out.trans (hbw.mono (by rw [HXW.out.symm, ← HZ.out]; exact HBR.out.size)))
          have HX5 := hid ((hbw.block X (by have := heap_lt HBXR.out; have := HZ.out; omega)).trans HBXR.out)
          clear hHeld hHeld2 hbw HS1 HBR HBXR
          go_wp2_with fail
          go_meet
          exact ⟨rfl, hid ⟨HB5.out, HX5.out⟩⟩
      · obtain rfl : j = i := by omega
        have hjN2 : ¬ (j : Int) < (N : Int) := by omega
        go_upto_region 2 with fail
        go_quiet (fail)
        go_wp2_with fail
        go_meet
        exact ⟨rfl, hid ⟨HS.out.1.trans (Joins.below_draws _ _ _), HS.out.2⟩⟩
  case rest =>
    obtain ⟨rfl, HS⟩ := hcut
    have HLN := HIN
    by_cases hjN : i < N
    · obtain ⟨b, off, e, hbX⟩ := HPX.out _ hjN
      subst e
      obtain ⟨b', off', e, hbl, a0, a1, a2, a3, a4, a5⟩ := HP.out wc HS.out.1 _ hjN
      cases e
      have hjN2 : (i : Int) < (N : Int) := by omega
      have j0 : (0 : Int) ≤ (i : Int) := by omega
      obtain ⟨y, hy⟩ : ∃ y, lf (TA ++ TC) i = y := ⟨_, rfl⟩
      rw [hy] at a0 a1 a2 a3 a4 a5
      obtain ⟨yo, hyo⟩ : ∃ yo, off + i * 6 = yo := ⟨_, rfl⟩
      rw [hyo] at a0 a1 a2 a3 a4 a5
      obtain ⟨Z, hZ⟩ : ∃ Z, wc.heap.size = Z := ⟨_, rfl⟩
      have HZ := hid hZ
      have hZZ : Z ≤ wc.heap.size := Nat.le_of_eq hZ.symm
      have hXl := heap_lt HS.out.2
      have HBR := hid HS.out.1
      have HBXR := hid HS.out.2
      have HS1 : Hid ((Below Z wc wc ∧ X < wc.heap.size ∧ b < wc.heap.size) ∧ (wc.cell? ⟨X, 0, none⟩ = some (.int .i64 p.k) ∧ wc.cell? ⟨X, 1, none⟩ = some (.int .i64 p.f) ∧ wc.cell? ⟨X, 2, none⟩ = some (.int .i64 p.t) ∧ wc.cell? ⟨X, 3, none⟩ = some (.int .i64 p.a) ∧ wc.cell? ⟨X, 4, none⟩ = some (.int .i64 p.c) ∧ wc.cell? ⟨X, 5, none⟩ = some (.int .i64 p.s)) ∧ (wc.cell? ⟨b, yo, none⟩ = some (.int .i64 y.k) ∧ wc.cell? ⟨b, yo + 1, none⟩ = some (.int .i64 y.f) ∧ wc.cell? ⟨b, yo + 2, none⟩ = some (.int .i64 y.t) ∧ wc.cell? ⟨b, yo + 3, none⟩ = some (.int .i64 y.a) ∧ wc.cell? ⟨b, yo + 4, none⟩ = some (.int .i64 y.c) ∧ wc.cell? ⟨b, yo + 5, none⟩ = some (.int .i64 y.s))) := hid ⟨⟨Below.refl _ _, hXl, hbl⟩, ⟨cell_of_row _ _ 0 _ _ _ HS.out.2, cell_of_row _ _ 1 _ _ _ HS.out.2, cell_of_row _ _ 2 _ _ _ HS.out.2, cell_of_row _ _ 3 _ _ _ HS.out.2, cell_of_row _ _ 4 _ _ _ HS.out.2, cell_of_row _ _ 5 _ _ _ HS.out.2⟩, a0, a1, a2, a3, a4, a5⟩
      have HLS := hid (fun W => less_any p y true (decide_eq_true (by rw [← hy]; exact HC.out _ (Nat.le_refl _) hjN)) W)
      clear hy hbl hZ hXl a0 a1 a2 a3 a4 a5 HS hbX
      go_upto_region 4 with fail
      refine wp_region_held_drew (S := (fun wx => (Below Z wc wx ∧ X < wx.heap.size ∧ b < wx.heap.size) ∧ (wx.cell? ⟨X, 0, none⟩ = some (.int .i64 p.k) ∧ wx.cell? ⟨X, 1, none⟩ = some (.int .i64 p.f) ∧ wx.cell? ⟨X, 2, none⟩ = some (.int .i64 p.t) ∧ wx.cell? ⟨X, 3, none⟩ = some (.int .i64 p.a) ∧ wx.cell? ⟨X, 4, none⟩ = some (.int .i64 p.c) ∧ wx.cell? ⟨X, 5, none⟩ = some (.int .i64 p.s)) ∧ (wx.cell? ⟨b, yo, none⟩ = some (.int .i64 y.k) ∧ wx.cell? ⟨b, yo + 1, none⟩ = some (.int .i64 y.f) ∧ wx.cell? ⟨b, yo + 2, none⟩ = some (.int .i64 y.t) ∧ wx.cell? ⟨b, yo + 3, none⟩ = some (.int .i64 y.a) ∧ wx.cell? ⟨b, yo + 4, none⟩ = some (.int .i64 y.c) ∧ wx.cell? ⟨b, yo + 5, none⟩ = some (.int .i64 y.s)))) (by kernel_rfl) (put_keep HS1.out ((Below.refl _ _).drew) hZZ) (fun hHeld => ?_)
      refine wpAnyH_take (i := 0) (oi := { dst := some 22, op := Op.move (Operand.tmp 5), type := 3, pos := "ref.go:92", after := #[], guard := none }) (v := ?_) rfl (by kernel_rfl) (by kernel_rfl) (by kernel_rfl) (fun _ _ _ h => h) (Or.inl ⟨by rfl, ?_⟩) (by assumption) ?_
      rotate_left
      · intro w hSw; (try dsimp only at hSw); go_simp; try (with_reducible rfl)
      try simp only [Act.put, List.setIfInBounds_toArray, List.set_cons_zero, List.set_cons_succ]
      refine wpAnyH_take (i := 1) (oi := { dst := some 23, op := Op.move (Operand.tmp 0), type := 22, pos := "ref.go:92", after := #[], guard := none }) (v := ?_) rfl (by kernel_rfl) (by kernel_rfl) (by kernel_rfl) (fun _ _ _ h => h) (Or.inl ⟨by rfl, ?_⟩) (by assumption) ?_
      rotate_left
      · intro w hSw; (try dsimp only at hSw); go_simp; try (with_reducible rfl)
      try simp only [Act.put, List.setIfInBounds_toArray, List.set_cons_zero, List.set_cons_succ]
      refine wpAnyH_take (i := 2) (oi := { dst := some 24, op := Op.call { callee := Callee.builtin Builtin.len, args := #[Operand.tmp 23], argTypes := #[22] }, type := 3, pos := "ref.go:92", after := #[{ on := 1, ground := Ground.data }], guard := none }) (v := ?_) rfl (by kernel_rfl) (by kernel_rfl) (by kernel_rfl) (fun _ _ _ h => h) (Or.inl ⟨by rfl, ?_⟩) (by assumption) ?_
      rotate_left
      · intro w hSw; (try dsimp only at hSw); go_simp; try (with_reducible rfl)
      try simp only [Act.put, List.setIfInBounds_toArray, List.set_cons_zero, List.set_cons_succ]
      refine wpAnyH_take (i := 3) (oi := { dst := some 25, op := Op.binOp BinOp.lss 3 (Operand.tmp 22) (Operand.tmp 24) 3, type := 4, pos := "ref.go:92", after := #[{ on := 0, ground := Ground.data }, { on := 2, ground := Ground.data }], guard := none }) (v := ?_) rfl (by kernel_rfl) (by kernel_rfl) (by kernel_rfl) (fun _ _ _ h => h) (Or.inl ⟨by rfl, ?_⟩) (by assumption) ?_
      rotate_left
      · intro w hSw; (try dsimp only at hSw); go_simp; try (with_reducible rfl)
      try simp only [Act.put, List.setIfInBounds_toArray, List.set_cons_zero, List.set_cons_succ]
      refine wpAnyH_take (i := 4) (oi := { dst := some 26, op := Op.move (Operand.tmp 25), type := 4, pos := "ref.go:92", after := #[{ on := 3, ground := Ground.data }], guard := none }) (v := ?_) rfl (by kernel_rfl) (by kernel_rfl) (by kernel_rfl) (fun _ _ _ h => h) (Or.inl ⟨by rfl, ?_⟩) (by assumption) ?_
      rotate_left
      · intro w hSw; (try dsimp only at hSw); go_simp; try (with_reducible rfl)
      try simp only [Act.put, List.setIfInBounds_toArray, List.set_cons_zero, List.set_cons_succ]
      refine wpAnyH_take (i := 5) (oi := { dst := some 27, op := Op.load 36 (Operand.tmp 3), type := 36, pos := "ref.go:92", after := #[{ on := 4, ground := Ground.guard }], guard := some (4, true) }) (v := ?_) rfl (by kernel_rfl) (by kernel_rfl) (by kernel_rfl) (fun _ _ _ h => h) (Or.inl ⟨by rfl, ?_⟩) (by assumption) ?_
      rotate_left
      · intro w hSw; (try dsimp only at hSw); go_simp; try (with_reducible rfl)
      try simp only [Act.put, List.setIfInBounds_toArray, List.set_cons_zero, List.set_cons_succ]
      refine wpAnyH_take (i := 6) (oi := { dst := some 28, op := Op.move (Operand.tmp 0), type := 22, pos := "ref.go:92", after := #[{ on := 4, ground := Ground.guard }], guard := some (4, true) }) (v := ?_) rfl (by kernel_rfl) (by kernel_rfl) (by kernel_rfl) (fun _ _ _ h => h) (Or.inl ⟨by rfl, ?_⟩) (by assumption) ?_
      rotate_left
      · intro w hSw; (try dsimp only at hSw); go_simp; try (with_reducible rfl)
      try simp only [Act.put, List.setIfInBounds_toArray, List.set_cons_zero, List.set_cons_succ]
      refine wpAnyH_take (i := 7) (oi := { dst := some 29, op := Op.move (Operand.tmp 5), type := 3, pos := "ref.go:92", after := #[{ on := 4, ground := Ground.guard }], guard := some (4, true) }) (v := ?_) rfl (by kernel_rfl) (by kernel_rfl) (by kernel_rfl) (fun _ _ _ h => h) (Or.inl ⟨by rfl, ?_⟩) (by assumption) ?_
      rotate_left
      · intro w hSw; (try dsimp only at hSw); go_simp; try (with_reducible rfl)
      try simp only [Act.put, List.setIfInBounds_toArray, List.set_cons_zero, List.set_cons_succ]
      refine wpAnyH_take (i := 8) (oi := { dst := some 30, op := Op.indexAddr 22 (Operand.tmp 28) (Operand.tmp 29), type := 0, pos := "ref.go:92", after := #[{ on := 6, ground := Ground.data }, { on := 7, ground := Ground.data }, { on := 4, ground := Ground.guard }], guard := some (4, true) }) (v := ?_) rfl (by kernel_rfl) (by kernel_rfl) (by kernel_rfl) (fun _ _ _ h => h) (Or.inl ⟨by rfl, ?_⟩) (by assumption) ?_
      rotate_left
      · intro w hSw; (try dsimp only at hSw); go_simp; try (with_reducible rfl)
      try simp only [Act.put, List.setIfInBounds_toArray, List.set_cons_zero, List.set_cons_succ]
      refine wpAnyH_take (i := 9) (oi := { dst := some 31, op := Op.load 36 (Operand.tmp 30), type := 36, pos := "ref.go:92", after := #[{ on := 8, ground := Ground.data }, { on := 4, ground := Ground.guard }], guard := some (4, true) }) (v := ?_) rfl (by kernel_rfl) (by kernel_rfl) (by kernel_rfl) (fun _ _ _ h => h) (Or.inl ⟨by rfl, ?_⟩) (by assumption) ?_
      rotate_left
      · intro w hSw; (try dsimp only at hSw); go_simp; try (with_reducible rfl)
      try simp only [Act.put, List.setIfInBounds_toArray, List.set_cons_zero, List.set_cons_succ]
      refine wpAnyH_ready (rs := [10]) (by kernel_rfl) (by simp) ?_
      refine AllReadyH.cons (o := { dst := some 32, op := Op.call { callee := Callee.value (Operand.func 42), args := #[Operand.tmp 27, Operand.tmp 31], argTypes := #[36, 36] }, type := 4, pos := "ref.go:92", after := #[{ on := 5, ground := Ground.data }, { on := 9, ground := Ground.data }, { on := 4, ground := Ground.chain }, { on := 4, ground := Ground.guard }], guard := some (4, true) }) rfl (fun K hK => ?_) AllReadyH.nil
      go_simp
      refine (HLS.out _).mono ?_
      rintro e w5 ⟨rfl, hb⟩
      try go_wp2_with fail
      refine hK.out _ _ (put_keep (by assumption) hb hZZ) (fun hHeld2 => ?_)
      clear hK K
      try simp only [Act.put, List.setIfInBounds_toArray, List.set_cons_zero, List.set_cons_succ]
      refine wpAnyH_take (i := 11) (oi := { dst := some 33, op := Op.unOp UnOp.not 4 (Operand.tmp 32), type := 4, pos := "ref.go:92", after := #[{ on := 10, ground := Ground.data }, { on := 4, ground := Ground.guard }], guard := some (4, true) }) (v := ?_) rfl (by kernel_rfl) (by kernel_rfl) (by kernel_rfl) (fun _ _ _ h => h) (Or.inl ⟨by rfl, ?_⟩) (by assumption) ?_
      rotate_left
      · intro w hSw; (try dsimp only at hSw); go_simp; try (with_reducible rfl)
      try simp only [Act.put, List.setIfInBounds_toArray, List.set_cons_zero, List.set_cons_succ]
      refine wpAnyH_take (i := 12) (oi := { dst := some 34, op := Op.pick (Operand.tmp 26) (Operand.tmp 33) (Operand.const (Value.bool false)), type := 4, pos := "ref.go:92", after := #[{ on := 4, ground := Ground.data }, { on := 11, ground := Ground.data }], guard := none }) (v := ?_) rfl (by kernel_rfl) (by kernel_rfl) (by kernel_rfl) (fun _ _ _ h => h) (Or.inl ⟨by rfl, ?_⟩) (by assumption) ?_
      rotate_left
      · intro w hSw; (try dsimp only at hSw); go_simp; try (with_reducible rfl)
      try simp only [Act.put, List.setIfInBounds_toArray, List.set_cons_zero, List.set_cons_succ]
      refine wpAnyH_done (by kernel_rfl) ?_ _
      have hbw := hHeld2.1.1
      have HB5 := hid (HBR.out.trans (hbw.mono (by rw [HXW.out.symm, ← HZ.out]; exact HBR.out.size)))
      have HX5 := hid ((hbw.block X (by have := heap_lt HBXR.out; have := HZ.out; omega)).trans HBXR.out)
      clear hHeld hHeld2 hbw HS1 HBR HBXR
      go_upto_region 9 with fail
      clear hyo hjN2 j0 hZZ HZ
      have HPA : Hid (Pars w5 (some ⟨b, off, none⟩) i (lf TA)) := hid (by have h := HP.out w5 HB5.out; rw [← HLN.out.2] at h; have := h.left; rw [HLN.out.1] at this; exact this)
      obtain ⟨B9, hB9⟩ : ∃ B9, w5.heap.size = B9 := ⟨_, rfl⟩
      have HB9 := hid hB9
      have HTC := hid (HP.out w5 HB5.out)
      obtain ⟨i0, hi, hz0, hz1, hz2⟩ := info_parts infoP
      have HIP := hid (And.intro hi (And.intro hz0 (And.intro hz1 hz2)))
      have hlen2 : N ≤ lc := HCAP.out.1
      have HTA0 : Hid (i ≤ 100000) := hid (by omega)
      have HBW9 : Hid (X ≤ B9) := hid (by have := HB5.out.size; have := HXW.out; omega)
      clear hi hz0 hz1 hz2
      go_wp2_with (first
        | (at_builtin; refine wpList_append_fresh w5 rfl _ _ rfl rfl (by rw [HB9.out]; rfl) (some ⟨b, off, none⟩) i lc (lf TA) rfl HPA.out HTA0.out ?_; intro vo c w3 hrow hb3; have HR3 : Hid (RowL w3 B9 (.slice vo i c) TA) := hid (by show RowP w3 B9 _ TA.length _; rw [← HB9.out, HLN.out.1]; exact hrow); have HB3 := hid (HB5.out.trans (hb3.mono (by rw [HB9.out]; exact HBW9.out))); have HX3 := hid ((hb3.block X (heap_lt HX5.out)).trans HX5.out); have HS3 : Hid (B9 ≤ w3.heap.size) := hid (by rw [← HB9.out]; exact hb3.size); have x0 : w3.cell? ⟨X, 0, none⟩ = some (.int .i64 p.k) := cell_of_row _ _ 0 _ _ _ HX3.out; have x1 : w3.cell? ⟨X, 1, none⟩ = some (.int .i64 p.f) := cell_of_row _ _ 1 _ _ _ HX3.out; have x2 : w3.cell? ⟨X, 2, none⟩ = some (.int .i64 p.t) := cell_of_row _ _ 2 _ _ _ HX3.out; have x3 : w3.cell? ⟨X, 3, none⟩ = some (.int .i64 p.a) := cell_of_row _ _ 3 _ _ _ HX3.out; have x4 : w3.cell? ⟨X, 4, none⟩ = some (.int .i64 p.c) := cell_of_row _ _ 4 _ _ _ HX3.out; have x5 : w3.cell? ⟨X, 5, none⟩ = some (.int .i64 p.s) := cell_of_row _ _ 5 _ _ _ HX3.out; clear hrow hb3 HPA)
        | (at_builtin; refine wpList_append_lies _ rfl _ _ 22 rfl B9 36 i0 (.agg #[.int .i64 0, .int .i64 0, .int .i64 0, .int .i64 0, .int .i64 0, .int .i64 0]) 6 48 Try.underlying22 HIP.out.1 HIP.out.2.1 HIP.out.2.2.1 HIP.out.2.2.2 rfl (by decide) _ _ _ rfl (HR3.out.alloc _) ⟨_, 0, none⟩ 1 1 (pc p) rfl rfl (pc_at _ p _ (by simp)) (pc_one p) (by decide) (by have := HTA0.out; have := HLN.out.1; unfold maxLen; omega) (by have := HTA0.out; have := HLN.out.1; omega) (by have := HS3.out; simp at this ⊢; omega) _ rfl ?_; intro g cap w4 hown hgrow hat hlt4; have HR4 := hid (RowL.app hown); have HB4 := hid (HB3.out.trans (((Below.refl _ w3).alloc (by have := HB3.out.size; have := HXW.out; omega) _).grown hgrow (by have := HB3.out.size; have := HXW.out; simp; omega) (fun k hk => by have := (HR3.out.lt k hk).1; have := HBW9.out; omega))); have HS4 : Hid (w3.heap.size ≤ w4.heap.size) := hid (by have := hgrow.size; simp at this; omega); have HPB : Hid (Pars w4 (some ⟨b, off + i * 6, none⟩) (N - i) (lf TC)) := hid (by have h := HP.out w4 HB4.out; rw [← HLN.out.2] at h; have h2 := h.right; rw [HLN.out.1] at h2; have e : TC.length = N - i := (by have := HLN.out; simp only [List.length_append] at this; omega); rw [e] at h2; exact h2); clear hown hgrow hat hlt4 x0 x1 x2 x3 x4 x5 HX3)
        | (at_builtin; refine wpList_append_list' w4 rfl _ _ rfl rfl B9 (TA ++ [p]) TC (TA.length + 1) (N - i) (by simp) (by have := HLN.out; simp only [List.length_append] at this; omega) (some ⟨g, 0, none⟩) cap rfl HR4.out (some ⟨b, off + i * 6, none⟩) (lc - i) rfl HPB.out (by have := HTA0.out; have := HLN.out.1; omega) (by have := HS3.out; have := HS4.out; omega) ?_; intro vo6 c6 w6 hrow6 hgrow6; have HR6 := hid hrow6; have HB6 := hid (HB4.out.grown hgrow6 (by have := HB4.out.size; have := HXW.out; omega) (fun k hk => by have := (HR4.out.lt k hk).1; have := HBW9.out; omega)); clear hrow6 hgrow6))
      have HLL : Hid (LQ.length = TA.length + 1 + (N - i)) := hid (by rw [← HLQ.out]; have := HLN.out; simp only [List.length_append, List.length_cons] at this ⊢; omega)
      have HEQ : Hid (TA ++ [p] ++ TC = LQ) := hid (by rw [← HLQ.out]; simp)
      go_wp2_with fail
      go_ret
      refine ⟨vo6, c6, by rw [HLL.out]; rfl, ?_, HB6.out⟩
      have h := HR6.out
      rw [HEQ.out] at h
      rw [HLL.out]
      exact row_mono h HBW9.out
    · have hjN2 : ¬ (i : Int) < (N : Int) := by omega
      have hNi : N - i = 0 := by omega
      have HNI := hid hNi
      cases lo with
      | none =>
        have hl0 := HCAP.out.2 rfl
        have hN0 : N = 0 := by have := HCAP.out.1; omega
        have hi0 : i = 0 := by omega
        subst hl0 hN0 hi0
        clear hNi
        have HB5' := hid HS.out.1
        have HX5' := hid HS.out.2
        clear HS
        go_upto_region 4 with fail
        go_quiet (fail)
        have HB5 : Hid (Below X w (World.drewN wc nq)) := hid (HB5'.out.trans (Joins.below_draws _ _ _))
        have HX5 : Hid ((World.drewN wc nq).heap[X]? = some (.cells #[.int .i64 p.k, .int .i64 p.f, .int .i64 p.t, .int .i64 p.a, .int .i64 p.c, .int .i64 p.s] 36 (0, 0))) := hid HX5'.out
        go_upto_region 9 with fail
        clear HB5' HX5' hjN2
        generalize World.drewN _ _ = w5 at HB5 HX5 ⊢
        have HPA : Hid (Pars w5 none 0 (lf TA)) := hid (fun j hj => absurd hj (by omega))
        obtain ⟨B9, hB9⟩ : ∃ B9, w5.heap.size = B9 := ⟨_, rfl⟩
        have HB9 := hid hB9
        have HTC := hid (HP.out w5 HB5.out)
        obtain ⟨i0, hi, hz0, hz1, hz2⟩ := info_parts infoP
        have HIP := hid (And.intro hi (And.intro hz0 (And.intro hz1 hz2)))
        have HTA0 : Hid (0 ≤ 100000) := hid (by omega)
        have HBW9 : Hid (X ≤ B9) := hid (by have := HB5.out.size; have := HXW.out; omega)
        clear hi hz0 hz1 hz2
        go_wp2_with (first
          | (at_builtin; refine wpList_append_fresh w5 rfl _ _ rfl rfl (by rw [HB9.out]; rfl) none 0 0 (lf TA) rfl HPA.out HTA0.out ?_; intro vo c w3 hrow hb3; have HR3 : Hid (RowL w3 B9 (.slice vo 0 c) TA) := hid (by show RowP w3 B9 _ TA.length _; rw [← HB9.out, HLN.out.1]; exact hrow); have HB3 := hid (HB5.out.trans (hb3.mono (by rw [HB9.out]; exact HBW9.out))); have HX3 := hid ((hb3.block X (heap_lt HX5.out)).trans HX5.out); have HS3 : Hid (B9 ≤ w3.heap.size) := hid (by rw [← HB9.out]; exact hb3.size); have x0 : w3.cell? ⟨X, 0, none⟩ = some (.int .i64 p.k) := cell_of_row _ _ 0 _ _ _ HX3.out; have x1 : w3.cell? ⟨X, 1, none⟩ = some (.int .i64 p.f) := cell_of_row _ _ 1 _ _ _ HX3.out; have x2 : w3.cell? ⟨X, 2, none⟩ = some (.int .i64 p.t) := cell_of_row _ _ 2 _ _ _ HX3.out; have x3 : w3.cell? ⟨X, 3, none⟩ = some (.int .i64 p.a) := cell_of_row _ _ 3 _ _ _ HX3.out; have x4 : w3.cell? ⟨X, 4, none⟩ = some (.int .i64 p.c) := cell_of_row _ _ 4 _ _ _ HX3.out; have x5 : w3.cell? ⟨X, 5, none⟩ = some (.int .i64 p.s) := cell_of_row _ _ 5 _ _ _ HX3.out; clear hrow hb3 HPA)
          | (at_builtin; refine wpList_append_lies _ rfl _ _ 22 rfl B9 36 i0 (.agg #[.int .i64 0, .int .i64 0, .int .i64 0, .int .i64 0, .int .i64 0, .int .i64 0]) 6 48 Try.underlying22 HIP.out.1 HIP.out.2.1 HIP.out.2.2.1 HIP.out.2.2.2 rfl (by decide) _ _ _ rfl (HR3.out.alloc _) ⟨_, 0, none⟩ 1 1 (pc p) rfl rfl (pc_at _ p _ (by simp)) (pc_one p) (by decide) (by have := HTA0.out; have := HLN.out.1; unfold maxLen; omega) (by have := HTA0.out; have := HLN.out.1; omega) (by have := HS3.out; simp at this ⊢; omega) _ rfl ?_; intro g cap w4 hown hgrow hat hlt4; have HR4 := hid (RowL.app hown); have HB4 := hid (HB3.out.trans (((Below.refl _ w3).alloc (by have := HB3.out.size; have := HXW.out; omega) _).grown hgrow (by have := HB3.out.size; have := HXW.out; simp; omega) (fun k hk => by have := (HR3.out.lt k hk).1; have := HBW9.out; omega))); have HS4 : Hid (w3.heap.size ≤ w4.heap.size) := hid (by have := hgrow.size; simp at this; omega); have HPB : Hid (Pars w4 none 0 (lf TC)) := hid (fun j hj => absurd hj (by omega)); clear hown hgrow hat hlt4 x0 x1 x2 x3 x4 x5 HX3)
          | (at_builtin; refine wpList_append_list' w4 rfl _ _ rfl rfl B9 (TA ++ [p]) TC (TA.length + 1) 0 (by simp) (by have := HLN.out; simp only [List.length_append] at this; omega) (some ⟨g, 0, none⟩) cap rfl HR4.out none 0 rfl HPB.out (by have := HTA0.out; have := HLN.out.1; omega) (by have := HS3.out; have := HS4.out; omega) ?_; intro vo6 c6 w6 hrow6 hgrow6; have HR6 := hid hrow6; have HB6 := hid (HB4.out.grown hgrow6 (by have := HB4.out.size; have := HXW.out; omega) (fun k hk => by have := (HR4.out.lt k hk).1; have := HBW9.out; omega)); clear hrow6 hgrow6))
        have HLL : Hid (LQ.length = TA.length + 1 + 0) := hid (by rw [← HLQ.out]; have := HLN.out; simp only [List.length_append, List.length_cons] at this ⊢; omega)
        have HEQ : Hid (TA ++ [p] ++ TC = LQ) := hid (by rw [← HLQ.out]; simp)
        go_wp2_with fail
        go_ret
        refine ⟨vo6, c6, by rw [HLL.out]; rfl, ?_, HB6.out⟩
        have h := HR6.out
        rw [HEQ.out] at h
        rw [HLL.out]
        exact row_mono h HBW9.out
      | some ad =>
        have hN1 : 0 < N := by
          by_cases c : N = 0
          · have := HEMP.out c; cases this
          · omega
        obtain ⟨b, off, e, hbX⟩ := HPX.out 0 hN1
        cases e
        obtain rfl : i = N := by omega
        clear hNi
        have HB5' := hid HS.out.1
        have HX5' := hid HS.out.2
        clear HS
        go_upto_region 4 with fail
        go_quiet (fail)
        have HB5 : Hid (Below X w (World.drewN wc nq)) := hid (HB5'.out.trans (Joins.below_draws _ _ _))
        have HX5 : Hid ((World.drewN wc nq).heap[X]? = some (.cells #[.int .i64 p.k, .int .i64 p.f, .int .i64 p.t, .int .i64 p.a, .int .i64 p.c, .int .i64 p.s] 36 (0, 0))) := hid HX5'.out
        go_upto_region 9 with fail
        clear HB5' HX5' hjN2
        generalize World.drewN _ _ = w5 at HB5 HX5 ⊢
        have HPA : Hid (Pars w5 (some ⟨b, off, none⟩) i (lf TA)) := hid (by have h := HP.out w5 HB5.out; rw [← HLN.out.2] at h; have := h.left; rw [HLN.out.1] at this; exact this)
        obtain ⟨B9, hB9⟩ : ∃ B9, w5.heap.size = B9 := ⟨_, rfl⟩
        have HB9 := hid hB9
        have HTC := hid (HP.out w5 HB5.out)
        obtain ⟨i0, hi, hz0, hz1, hz2⟩ := info_parts infoP
        have HIP := hid (And.intro hi (And.intro hz0 (And.intro hz1 hz2)))
        have hlen2 : i ≤ lc := HCAP.out.1
        have HTA0 : Hid (i ≤ 100000) := hid (by omega)
        have HBW9 : Hid (X ≤ B9) := hid (by have := HB5.out.size; have := HXW.out; omega)
        clear hi hz0 hz1 hz2
        go_wp2_with (first
          | (at_builtin; refine wpList_append_fresh w5 rfl _ _ rfl rfl (by rw [HB9.out]; rfl) (some ⟨b, off, none⟩) i lc (lf TA) rfl HPA.out HTA0.out ?_; intro vo c w3 hrow hb3; have HR3 : Hid (RowL w3 B9 (.slice vo i c) TA) := hid (by show RowP w3 B9 _ TA.length _; rw [← HB9.out, HLN.out.1]; exact hrow); have HB3 := hid (HB5.out.trans (hb3.mono (by rw [HB9.out]; exact HBW9.out))); have HX3 := hid ((hb3.block X (heap_lt HX5.out)).trans HX5.out); have HS3 : Hid (B9 ≤ w3.heap.size) := hid (by rw [← HB9.out]; exact hb3.size); have x0 : w3.cell? ⟨X, 0, none⟩ = some (.int .i64 p.k) := cell_of_row _ _ 0 _ _ _ HX3.out; have x1 : w3.cell? ⟨X, 1, none⟩ = some (.int .i64 p.f) := cell_of_row _ _ 1 _ _ _ HX3.out; have x2 : w3.cell? ⟨X, 2, none⟩ = some (.int .i64 p.t) := cell_of_row _ _ 2 _ _ _ HX3.out; have x3 : w3.cell? ⟨X, 3, none⟩ = some (.int .i64 p.a) := cell_of_row _ _ 3 _ _ _ HX3.out; have x4 : w3.cell? ⟨X, 4, none⟩ = some (.int .i64 p.c) := cell_of_row _ _ 4 _ _ _ HX3.out; have x5 : w3.cell? ⟨X, 5, none⟩ = some (.int .i64 p.s) := cell_of_row _ _ 5 _ _ _ HX3.out; clear hrow hb3 HPA)
          | (at_builtin; refine wpList_append_lies _ rfl _ _ 22 rfl B9 36 i0 (.agg #[.int .i64 0, .int .i64 0, .int .i64 0, .int .i64 0, .int .i64 0, .int .i64 0]) 6 48 Try.underlying22 HIP.out.1 HIP.out.2.1 HIP.out.2.2.1 HIP.out.2.2.2 rfl (by decide) _ _ _ rfl (HR3.out.alloc _) ⟨_, 0, none⟩ 1 1 (pc p) rfl rfl (pc_at _ p _ (by simp)) (pc_one p) (by decide) (by have := HTA0.out; have := HLN.out.1; unfold maxLen; omega) (by have := HTA0.out; have := HLN.out.1; omega) (by have := HS3.out; simp at this ⊢; omega) _ rfl ?_; intro g cap w4 hown hgrow hat hlt4; have HR4 := hid (RowL.app hown); have HB4 := hid (HB3.out.trans (((Below.refl _ w3).alloc (by have := HB3.out.size; have := HXW.out; omega) _).grown hgrow (by have := HB3.out.size; have := HXW.out; simp; omega) (fun k hk => by have := (HR3.out.lt k hk).1; have := HBW9.out; omega))); have HS4 : Hid (w3.heap.size ≤ w4.heap.size) := hid (by have := hgrow.size; simp at this; omega); have HPB : Hid (Pars w4 (some ⟨b, off + i * 6, none⟩) 0 (lf TC)) := hid (fun j hj => absurd hj (by omega)); clear hown hgrow hat hlt4 x0 x1 x2 x3 x4 x5 HX3)
          | (at_builtin; go_loud (refine wpList_append_list' w4 rfl _ _ rfl rfl B9 (TA ++ [p]) TC (TA.length + 1) 0 (by simp) (by have := HLN.out; simp only [List.length_append] at this; omega) (some ⟨g, 0, none⟩) cap rfl HR4.out _ _ rfl (fun j hj => absurd hj (by omega)) (by have := HTA0.out; have := HLN.out.1; omega) (by have := HS3.out; have := HS4.out; omega) ?_); intro vo6 c6 w6 hrow6 hgrow6; have HR6 := hid hrow6; have HB6 := hid (HB4.out.grown hgrow6 (by have := HB4.out.size; have := HXW.out; omega) (fun k hk => by have := (HR4.out.lt k hk).1; have := HBW9.out; omega)); clear hrow6 hgrow6))
        all_goals
          have HLL : Hid (LQ.length = TA.length + 1 + 0) := hid (by rw [← HLQ.out]; have := HLN.out; simp only [List.length_append, List.length_cons] at this ⊢; omega)
          have HEQ : Hid (TA ++ [p] ++ TC = LQ) := hid (by rw [← HLQ.out]; simp)
          go_wp2_with fail
          go_ret
          refine ⟨vo6, c6, by rw [HLL.out]; rfl, ?_, HB6.out⟩
          have h := HR6.out
          rw [HEQ.out] at h
          rw [HLL.out]
          exact row_mono h HBW9.out
  end Go.Proofs.Ytnfcibcpmaehoaa
