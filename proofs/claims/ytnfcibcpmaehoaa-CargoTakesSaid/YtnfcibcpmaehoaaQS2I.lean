/-
  The walk of symMerge of numbers, where one element stands to the right.
-/
import Derived.Test.YtnfcibcpmaehoaaQIsI
namespace Go.Proofs.Ytnfcibcpmaehoaa
open Go.RowKit

set_option maxRecDepth 100000 in
set_option maxHeartbeats 12800000 in
theorem sym2I_any (B g N c : Nat) (E : Nat → Int) (r : Nat → Int) (G : Nat) (lb : Array Value) (eg : ∀ args w, (callFunc G args).run Try.prog w = .ok (.enter G args) w) (hrk : Rk N r) (F : Nat → Nat) (hN : N ≤ 100000) (hf : Pf N F) (a m b : Nat) (ha : a < m) (hm : m < b) (hb : b ≤ N) (h1 : Srt r a m F) (hi : Idx a m b F) (w : World) (hM : SMI B g N c E F w) (hcm : CmI G lb g N E r w) (hone : b = m + 1) (hne : m ≠ a + 1) :
    Calls Try.prog 96 #[.slice (some ⟨g, 0, none⟩) N c, .int .i64 (a : Int), .int .i64 (m : Int), .int .i64 (b : Int), .func (.func G) #[] lb] w fun e w' => e = .returned (.tuple #[]) ∧ ∃ F', SMI B g N c E F' w' ∧ Pf N F' ∧ Tn g w w' ∧ Srt r a b F' ∧ In a b F F' := by
  have HCM0 := hid hcm
  have HRK := hid hrk
  have HPF := hid hf
  have HIX := hid hi
  have HS1' := hid h1
  have HM := hid hM
  have HON := hid hone
  obtain ⟨d, hd⟩ : ∃ d, d = m - a := ⟨_, rfl⟩
  have wd : IntKind.i64.wrap ((m : Int) - (a : Int)) = (d : Int) := by rw [IntKind.wrap_i64]; omega
  have hd1 : ((d : Int) == 1) = false := by simp; omega
  have wone : IntKind.i64.wrap ((b : Int) - (m : Int)) = 1 := by rw [IntKind.wrap_i64]; omega
  have m0 : (0 : Int) ≤ (m : Int) := by omega
  have mN : (m : Int) < (N : Int) := by omega
  clear hM hcm hrk hf hi h1 hone hd
  go_enter Try.func96, Try.ntmps96
  go_wp2_with fail
  go_loopw [14, 15] (fun iv jv wr => ∃ i j : Nat, a ≤ i ∧ i ≤ j ∧ j ≤ m ∧ iv = .int .i64 i ∧ jv = .int .i64 j ∧ Hid ((SMI B g N c E F wr ∧ Tn g w wr) ∧ (∀ q, a ≤ q → q < i → r (F q) < r (F m)) ∧ (∀ q, j ≤ q → q < m → r (F m) < r (F q)))) (fun iv jv _ => (intOf jv).toNat - (intOf iv).toNat)
  case atStart => exact ⟨a, m, Nat.le_refl _, by omega, Nat.le_refl _, rfl, rfl, hid ⟨⟨HM.out, Tn.refl _ _⟩, fun q q1 q2 => by omega, fun q q1 q2 => by omega⟩⟩
  case round =>
    clear HM wone wd hd1
    obtain ⟨i, j, hi1, hij, hj1, rfl, rfl, HS⟩ := hrel
    by_cases hlt : i < j
    · obtain ⟨h, hh⟩ : ∃ h, h = (i + j) / 2 := ⟨_, rfl⟩
      have q1 : ((i : Int) + (j : Int)) / 2 = (h : Int) := by omega
      have q2 : IntKind.i64.wrap ((i : Int) + (j : Int)) = (i : Int) + (j : Int) := by rw [IntKind.wrap_i64]; omega
      have q3 : IntKind.u64.wrap ((i : Int) + (j : Int)) = (i : Int) + (j : Int) := by rw [IntKind.wrap_u64]; omega
      have h0 : (0 : Int) ≤ (h : Int) := by omega
      have hhN : (h : Int) < (N : Int) := by omega
      have HH0 : Hid (i ≤ h ∧ h < j) := hid (by omega)
      have wh : IntKind.i64.wrap ((h : Int) + 1) = ((h + 1 : Nat) : Int) := by rw [IntKind.wrap_i64]; omega
      have HSM := hid HS.out.1.1
      have HT := hid HS.out.1.2
      have HLO := hid HS.out.2.1
      have HHI := hid HS.out.2.2
      clear HS
      obtain ⟨Z, hZ⟩ : ∃ Z, wr.heap.size = Z := ⟨_, rfl⟩
      have HZ := hid hZ
      have hZZ : Z ≤ wr.heap.size := Nat.le_of_eq hZ.symm
      have HTT : Hid (∀ W, Below Z wr W → Tn g wr W) := hid (fun W hW => Tn.of_below (by rw [hZ]; exact hW))
      have HCM := hid (fun W (hW : Below Z wr W) => HCM0.out W (F h) (F m) (HIX.out h m (by omega) (by omega) (Nat.le_refl _) hm) (HPF.out.lt m (by omega)) (HT.out.trans (HTT.out W hW)))
      have HS1 : Hid (((Below Z wr wr ∧ g < wr.heap.size) ∧ (wr.cell? ⟨g, m, none⟩ = some (.int .i64 (E (F m))))) ∧ (wr.cell? ⟨g, h, none⟩ = some (.int .i64 (E (F h))))) := hid ⟨⟨⟨Below.refl _ _, HSM.out.lt.2⟩, HSM.out.at_ (i := m) (by omega)⟩, HSM.out.at_ (i := h) (by omega)⟩
      clear hZ
      clear hh
      by_cases hcmp : r (F m) < r (F h)
      · have HHI2 : Hid (∀ q, h ≤ q → q < m → r (F m) < r (F q)) := hid (fun q q1 q2 => by
          by_cases e : q = h
          · subst e; exact hcmp
          · have := HS1'.out h q (by omega) (by omega) (by omega); omega)
        go_upto_region 17 with fail
        refine wp_region_held_drew (S := (fun wx => ((Below Z wr wx ∧ g < wx.heap.size) ∧ (wx.cell? ⟨g, m, none⟩ = some (.int .i64 (E (F m))))) ∧ (wx.cell? ⟨g, h, none⟩ = some (.int .i64 (E (F h)))))) (by kernel_rfl) (cm_keepI HS1.out ((Below.refl _ _).drew) hZZ) (fun hHeld => ?_)
        refine wpAnyH_take (i := 0) (oi := { dst := some 92, op := Op.move (Operand.tmp 4), type := 94, pos := "zsortanyfunc.go:414", after := #[], guard := none }) (v := ?_) rfl (by kernel_rfl) (by kernel_rfl) (by kernel_rfl) (fun _ _ _ h => h) (Or.inl ⟨by rfl, ?_⟩) (by assumption) ?_
        rotate_left
        · intro w hSw; (try dsimp only at hSw); go_simp; try (with_reducible rfl)
        try simp only [Act.put, List.setIfInBounds_toArray, List.set_cons_zero, List.set_cons_succ]
        refine wpAnyH_take (i := 1) (oi := { dst := some 93, op := Op.move (Operand.tmp 0), type := 69, pos := "zsortanyfunc.go:414", after := #[], guard := none }) (v := ?_) rfl (by kernel_rfl) (by kernel_rfl) (by kernel_rfl) (fun _ _ _ h => h) (Or.inl ⟨by rfl, ?_⟩) (by assumption) ?_
        rotate_left
        · intro w hSw; (try dsimp only at hSw); go_simp; try (with_reducible rfl)
        try simp only [Act.put, List.setIfInBounds_toArray, List.set_cons_zero, List.set_cons_succ]
        refine wpAnyH_take (i := 2) (oi := { dst := some 94, op := Op.move (Operand.tmp 2), type := 3, pos := "zsortanyfunc.go:414", after := #[], guard := none }) (v := ?_) rfl (by kernel_rfl) (by kernel_rfl) (by kernel_rfl) (fun _ _ _ h => h) (Or.inl ⟨by rfl, ?_⟩) (by assumption) ?_
        rotate_left
        · intro w hSw; (try dsimp only at hSw); go_simp; try (with_reducible rfl)
        try simp only [Act.put, List.setIfInBounds_toArray, List.set_cons_zero, List.set_cons_succ]
        refine wpAnyH_take (i := 3) (oi := { dst := some 95, op := Op.indexAddr 69 (Operand.tmp 93) (Operand.tmp 94), type := 0, pos := "zsortanyfunc.go:414", after := #[{ on := 1, ground := Ground.data }, { on := 2, ground := Ground.data }], guard := none }) (v := ?_) rfl (by kernel_rfl) (by kernel_rfl) (by kernel_rfl) (fun _ _ _ h => h) (Or.inl ⟨by rfl, ?_⟩) (by assumption) ?_
        rotate_left
        · intro w hSw; (try dsimp only at hSw); go_simp; try (with_reducible rfl)
        try simp only [Act.put, List.setIfInBounds_toArray, List.set_cons_zero, List.set_cons_succ]
        refine wpAnyH_take (i := 4) (oi := { dst := some 96, op := Op.load 3 (Operand.tmp 95), type := 3, pos := "zsortanyfunc.go:414", after := #[{ on := 3, ground := Ground.data }], guard := none }) (v := ?_) rfl (by kernel_rfl) (by kernel_rfl) (by kernel_rfl) (fun _ _ _ h => h) (Or.inl ⟨by rfl, ?_⟩) (by assumption) ?_
        rotate_left
        · intro w hSw; (try dsimp only at hSw); go_simp; try (with_reducible rfl)
        try simp only [Act.put, List.setIfInBounds_toArray, List.set_cons_zero, List.set_cons_succ]
        refine wpAnyH_take (i := 5) (oi := { dst := some 97, op := Op.move (Operand.tmp 0), type := 69, pos := "zsortanyfunc.go:414", after := #[], guard := none }) (v := ?_) rfl (by kernel_rfl) (by kernel_rfl) (by kernel_rfl) (fun _ _ _ h => h) (Or.inl ⟨by rfl, ?_⟩) (by assumption) ?_
        rotate_left
        · intro w hSw; (try dsimp only at hSw); go_simp; try (with_reducible rfl)
        try simp only [Act.put, List.setIfInBounds_toArray, List.set_cons_zero, List.set_cons_succ]
        refine wpAnyH_take (i := 6) (oi := { dst := some 98, op := Op.move (Operand.tmp 16), type := 3, pos := "zsortanyfunc.go:414", after := #[], guard := none }) (v := ?_) rfl (by kernel_rfl) (by kernel_rfl) (by kernel_rfl) (fun _ _ _ h => h) (Or.inl ⟨by rfl, ?_⟩) (by assumption) ?_
        rotate_left
        · intro w hSw; (try dsimp only at hSw); go_simp; try (with_reducible rfl)
        try simp only [Act.put, List.setIfInBounds_toArray, List.set_cons_zero, List.set_cons_succ]
        refine wpAnyH_take (i := 7) (oi := { dst := some 99, op := Op.indexAddr 69 (Operand.tmp 97) (Operand.tmp 98), type := 0, pos := "zsortanyfunc.go:414", after := #[{ on := 5, ground := Ground.data }, { on := 6, ground := Ground.data }], guard := none }) (v := ?_) rfl (by kernel_rfl) (by kernel_rfl) (by kernel_rfl) (fun _ _ _ h => h) (Or.inl ⟨by rfl, ?_⟩) (by assumption) ?_
        rotate_left
        · intro w hSw; (try dsimp only at hSw); go_simp; try (with_reducible rfl)
        try simp only [Act.put, List.setIfInBounds_toArray, List.set_cons_zero, List.set_cons_succ]
        refine wpAnyH_take (i := 8) (oi := { dst := some 100, op := Op.load 3 (Operand.tmp 99), type := 3, pos := "zsortanyfunc.go:414", after := #[{ on := 7, ground := Ground.data }], guard := none }) (v := ?_) rfl (by kernel_rfl) (by kernel_rfl) (by kernel_rfl) (fun _ _ _ h => h) (Or.inl ⟨by rfl, ?_⟩) (by assumption) ?_
        rotate_left
        · intro w hSw; (try dsimp only at hSw); go_simp; try (with_reducible rfl)
        try simp only [Act.put, List.setIfInBounds_toArray, List.set_cons_zero, List.set_cons_succ]
        refine wpAnyH_ready (rs := [9]) (by kernel_rfl) (by simp) ?_
        refine AllReadyH.cons (o := { dst := some 101, op := Op.call { callee := Callee.value (Operand.tmp 92), args := #[Operand.tmp 96, Operand.tmp 100], argTypes := #[3, 3] }, type := 3, pos := "zsortanyfunc.go:414", after := #[{ on := 0, ground := Ground.data }, { on := 4, ground := Ground.data }, { on := 8, ground := Ground.data }], guard := none }) rfl (fun K hK => ?_) AllReadyH.nil
        go_simp
        refine (HCM.out _ hHeld.1.1.1).mono ?_
        rintro e w5 ⟨s, rfl, hs, hb⟩
        have hs0 : s < 0 := hs.2 hcmp
        clear hs
        have hs1 : decide (s < 0) = true := decide_eq_true hs0
        have hs2 : (!decide (s < 0)) = false := by rw [hs1]; rfl
        try go_wp2_with fail
        refine hK.out _ _ (cm_keepI (by assumption) hb hZZ) (fun hHeld2 => ?_)
        clear hK K
        try simp only [Act.put, List.setIfInBounds_toArray, List.set_cons_zero, List.set_cons_succ]
        refine wpAnyH_take (i := 10) (oi := { dst := some 102, op := Op.binOp BinOp.lss 3 (Operand.tmp 101) (Operand.const (Value.int IntKind.i64 0)) 3, type := 4, pos := "zsortanyfunc.go:414", after := #[{ on := 9, ground := Ground.data }], guard := none }) (v := ?_) rfl (by kernel_rfl) (by kernel_rfl) (by kernel_rfl) (fun _ _ _ h => h) (Or.inl ⟨by rfl, ?_⟩) (by assumption) ?_
        rotate_left
        · intro w hSw; (try dsimp only at hSw); go_simp; try (with_reducible rfl)
        try simp only [Act.put, List.setIfInBounds_toArray, List.set_cons_zero, List.set_cons_succ]
        refine wpAnyH_take (i := 11) (oi := { dst := some 103, op := Op.unOp UnOp.not 4 (Operand.tmp 102), type := 4, pos := "zsortanyfunc.go:414", after := #[{ on := 10, ground := Ground.data }], guard := none }) (v := ?_) rfl (by kernel_rfl) (by kernel_rfl) (by kernel_rfl) (fun _ _ _ h => h) (Or.inl ⟨by rfl, ?_⟩) (by assumption) ?_
        rotate_left
        · intro w hSw; (try dsimp only at hSw); go_simp; try (with_reducible rfl)
        try simp only [Act.put, List.setIfInBounds_toArray, List.set_cons_zero, List.set_cons_succ]
        refine wpAnyH_done (by kernel_rfl) ?_ _
        have hbw := hHeld2.1.1.1
        have HSM5 := hid (show SMI B g N c E F w5 from HSM.out.stays (hbw.mono (Nat.le_of_eq HZ.out)))
        have HT5 := hid (HT.out.trans (HTT.out _ hbw))
        clear hHeld hHeld2 hbw HS1 HSM HT hcmp
        go_wp2_with fail
        go_roundw
        case rel => exact ⟨i, h, hi1, HH0.out.1, by have := HH0.out; omega, rfl, rfl, hid ⟨⟨HSM5.out, HT5.out⟩, HLO.out, HHI2.out⟩⟩
        case measure => have := HH0.out; simp [intOf]; omega
      · have HLO2 : Hid (∀ q, a ≤ q → q < h + 1 → r (F q) < r (F m)) := hid (fun q q1 q2 => by
          have hx := HRK.out.not HPF.out (p := m) (q := h) (by omega) (by omega) (by omega) hcmp
          by_cases e : q = h
          · subst e; exact hx
          · have := HS1'.out q h (by omega) (by omega) (by omega); omega)
        go_upto_region 17 with fail
        refine wp_region_held_drew (S := (fun wx => ((Below Z wr wx ∧ g < wx.heap.size) ∧ (wx.cell? ⟨g, m, none⟩ = some (.int .i64 (E (F m))))) ∧ (wx.cell? ⟨g, h, none⟩ = some (.int .i64 (E (F h)))))) (by kernel_rfl) (cm_keepI HS1.out ((Below.refl _ _).drew) hZZ) (fun hHeld => ?_)
        refine wpAnyH_take (i := 0) (oi := { dst := some 92, op := Op.move (Operand.tmp 4), type := 94, pos := "zsortanyfunc.go:414", after := #[], guard := none }) (v := ?_) rfl (by kernel_rfl) (by kernel_rfl) (by kernel_rfl) (fun _ _ _ h => h) (Or.inl ⟨by rfl, ?_⟩) (by assumption) ?_
        rotate_left
        · intro w hSw; (try dsimp only at hSw); go_simp; try (with_reducible rfl)
        try simp only [Act.put, List.setIfInBounds_toArray, List.set_cons_zero, List.set_cons_succ]
        refine wpAnyH_take (i := 1) (oi := { dst := some 93, op := Op.move (Operand.tmp 0), type := 69, pos := "zsortanyfunc.go:414", after := #[], guard := none }) (v := ?_) rfl (by kernel_rfl) (by kernel_rfl) (by kernel_rfl) (fun _ _ _ h => h) (Or.inl ⟨by rfl, ?_⟩) (by assumption) ?_
        rotate_left
        · intro w hSw; (try dsimp only at hSw); go_simp; try (with_reducible rfl)
        try simp only [Act.put, List.setIfInBounds_toArray, List.set_cons_zero, List.set_cons_succ]
        refine wpAnyH_take (i := 2) (oi := { dst := some 94, op := Op.move (Operand.tmp 2), type := 3, pos := "zsortanyfunc.go:414", after := #[], guard := none }) (v := ?_) rfl (by kernel_rfl) (by kernel_rfl) (by kernel_rfl) (fun _ _ _ h => h) (Or.inl ⟨by rfl, ?_⟩) (by assumption) ?_
        rotate_left
        · intro w hSw; (try dsimp only at hSw); go_simp; try (with_reducible rfl)
        try simp only [Act.put, List.setIfInBounds_toArray, List.set_cons_zero, List.set_cons_succ]
        refine wpAnyH_take (i := 3) (oi := { dst := some 95, op := Op.indexAddr 69 (Operand.tmp 93) (Operand.tmp 94), type := 0, pos := "zsortanyfunc.go:414", after := #[{ on := 1, ground := Ground.data }, { on := 2, ground := Ground.data }], guard := none }) (v := ?_) rfl (by kernel_rfl) (by kernel_rfl) (by kernel_rfl) (fun _ _ _ h => h) (Or.inl ⟨by rfl, ?_⟩) (by assumption) ?_
        rotate_left
        · intro w hSw; (try dsimp only at hSw); go_simp; try (with_reducible rfl)
        try simp only [Act.put, List.setIfInBounds_toArray, List.set_cons_zero, List.set_cons_succ]
        refine wpAnyH_take (i := 4) (oi := { dst := some 96, op := Op.load 3 (Operand.tmp 95), type := 3, pos := "zsortanyfunc.go:414", after := #[{ on := 3, ground := Ground.data }], guard := none }) (v := ?_) rfl (by kernel_rfl) (by kernel_rfl) (by kernel_rfl) (fun _ _ _ h => h) (Or.inl ⟨by rfl, ?_⟩) (by assumption) ?_
        rotate_left
        · intro w hSw; (try dsimp only at hSw); go_simp; try (with_reducible rfl)
        try simp only [Act.put, List.setIfInBounds_toArray, List.set_cons_zero, List.set_cons_succ]
        refine wpAnyH_take (i := 5) (oi := { dst := some 97, op := Op.move (Operand.tmp 0), type := 69, pos := "zsortanyfunc.go:414", after := #[], guard := none }) (v := ?_) rfl (by kernel_rfl) (by kernel_rfl) (by kernel_rfl) (fun _ _ _ h => h) (Or.inl ⟨by rfl, ?_⟩) (by assumption) ?_
        rotate_left
        · intro w hSw; (try dsimp only at hSw); go_simp; try (with_reducible rfl)
        try simp only [Act.put, List.setIfInBounds_toArray, List.set_cons_zero, List.set_cons_succ]
        refine wpAnyH_take (i := 6) (oi := { dst := some 98, op := Op.move (Operand.tmp 16), type := 3, pos := "zsortanyfunc.go:414", after := #[], guard := none }) (v := ?_) rfl (by kernel_rfl) (by kernel_rfl) (by kernel_rfl) (fun _ _ _ h => h) (Or.inl ⟨by rfl, ?_⟩) (by assumption) ?_
        rotate_left
        · intro w hSw; (try dsimp only at hSw); go_simp; try (with_reducible rfl)
        try simp only [Act.put, List.setIfInBounds_toArray, List.set_cons_zero, List.set_cons_succ]
        refine wpAnyH_take (i := 7) (oi := { dst := some 99, op := Op.indexAddr 69 (Operand.tmp 97) (Operand.tmp 98), type := 0, pos := "zsortanyfunc.go:414", after := #[{ on := 5, ground := Ground.data }, { on := 6, ground := Ground.data }], guard := none }) (v := ?_) rfl (by kernel_rfl) (by kernel_rfl) (by kernel_rfl) (fun _ _ _ h => h) (Or.inl ⟨by rfl, ?_⟩) (by assumption) ?_
        rotate_left
        · intro w hSw; (try dsimp only at hSw); go_simp; try (with_reducible rfl)
        try simp only [Act.put, List.setIfInBounds_toArray, List.set_cons_zero, List.set_cons_succ]
        refine wpAnyH_take (i := 8) (oi := { dst := some 100, op := Op.load 3 (Operand.tmp 99), type := 3, pos := "zsortanyfunc.go:414", after := #[{ on := 7, ground := Ground.data }], guard := none }) (v := ?_) rfl (by kernel_rfl) (by kernel_rfl) (by kernel_rfl) (fun _ _ _ h => h) (Or.inl ⟨by rfl, ?_⟩) (by assumption) ?_
        rotate_left
        · intro w hSw; (try dsimp only at hSw); go_simp; try (with_reducible rfl)
        try simp only [Act.put, List.setIfInBounds_toArray, List.set_cons_zero, List.set_cons_succ]
        refine wpAnyH_ready (rs := [9]) (by kernel_rfl) (by simp) ?_
        refine AllReadyH.cons (o := { dst := some 101, op := Op.call { callee := Callee.value (Operand.tmp 92), args := #[Operand.tmp 96, Operand.tmp 100], argTypes := #[3, 3] }, type := 3, pos := "zsortanyfunc.go:414", after := #[{ on := 0, ground := Ground.data }, { on := 4, ground := Ground.data }, { on := 8, ground := Ground.data }], guard := none }) rfl (fun K hK => ?_) AllReadyH.nil
        go_simp
        refine (HCM.out _ hHeld.1.1.1).mono ?_
        rintro e w5 ⟨s, rfl, hs, hb⟩
        have hs0 : ¬ s < 0 := fun h => hcmp (hs.1 h)
        clear hs
        have hs1 : decide (s < 0) = false := decide_eq_false hs0
        have hs2 : (!decide (s < 0)) = true := by rw [hs1]; rfl
        try go_wp2_with fail
        refine hK.out _ _ (cm_keepI (by assumption) hb hZZ) (fun hHeld2 => ?_)
        clear hK K
        try simp only [Act.put, List.setIfInBounds_toArray, List.set_cons_zero, List.set_cons_succ]
        refine wpAnyH_take (i := 10) (oi := { dst := some 102, op := Op.binOp BinOp.lss 3 (Operand.tmp 101) (Operand.const (Value.int IntKind.i64 0)) 3, type := 4, pos := "zsortanyfunc.go:414", after := #[{ on := 9, ground := Ground.data }], guard := none }) (v := ?_) rfl (by kernel_rfl) (by kernel_rfl) (by kernel_rfl) (fun _ _ _ h => h) (Or.inl ⟨by rfl, ?_⟩) (by assumption) ?_
        rotate_left
        · intro w hSw; (try dsimp only at hSw); go_simp; try (with_reducible rfl)
        try simp only [Act.put, List.setIfInBounds_toArray, List.set_cons_zero, List.set_cons_succ]
        refine wpAnyH_take (i := 11) (oi := { dst := some 103, op := Op.unOp UnOp.not 4 (Operand.tmp 102), type := 4, pos := "zsortanyfunc.go:414", after := #[{ on := 10, ground := Ground.data }], guard := none }) (v := ?_) rfl (by kernel_rfl) (by kernel_rfl) (by kernel_rfl) (fun _ _ _ h => h) (Or.inl ⟨by rfl, ?_⟩) (by assumption) ?_
        rotate_left
        · intro w hSw; (try dsimp only at hSw); go_simp; try (with_reducible rfl)
        try simp only [Act.put, List.setIfInBounds_toArray, List.set_cons_zero, List.set_cons_succ]
        refine wpAnyH_done (by kernel_rfl) ?_ _
        have hbw := hHeld2.1.1.1
        have HSM5 := hid (show SMI B g N c E F w5 from HSM.out.stays (hbw.mono (Nat.le_of_eq HZ.out)))
        have HT5 := hid (HT.out.trans (HTT.out _ hbw))
        clear hHeld hHeld2 hbw HS1 HSM HT hcmp
        go_wp2_with fail
        go_roundw
        case rel => exact ⟨h + 1, j, by have := HH0.out; omega, by have := HH0.out; omega, hj1, rfl, rfl, hid ⟨⟨HSM5.out, HT5.out⟩, HLO2.out, HHI.out⟩⟩
        case measure => have := HH0.out; simp [intOf]; omega
    · obtain rfl : i = j := by omega
      have HSR := hid (one_left HS1'.out hi1 hj1 HS.out.2.1 HS.out.2.2)
      rw [← HON.out] at HSR
      have HM2 := hid (show (SMI B g N c E (mvL m m F) wr ∧ Pf N (mvL m m F)) ∧ Tn g w wr ∧ In a b F (mvL m m F) by rw [mvL_zero]; exact ⟨⟨HS.out.1.1, HPF.out⟩, HS.out.1.2, In.refl _ _ _⟩)
      clear HS hlt
      go_wp2_with fail
      go_loopw [17] (fun kv wr => ∃ k : Nat, i ≤ k ∧ k ≤ m ∧ kv = .int .i64 k ∧ Hid ((SMI B g N c E (mvL m k F) wr ∧ Pf N (mvL m k F)) ∧ Tn g w wr ∧ In a b F (mvL m k F))) (fun kv _ => (intOf kv).toNat - i)
      case atStart => exact ⟨m, hj1, Nat.le_refl _, rfl, HM2⟩
      case round =>
        clear HM2
        obtain ⟨k, hk1, hk2, rfl, HS⟩ := hrel
        by_cases hlt : i < k
        · have HSM := hid HS.out.1.1
          have HPF := hid HS.out.1.2
          have HT := hid HS.out.2.1
          have HIN := hid HS.out.2.2
          obtain ⟨l, hl⟩ : ∃ l, l = k - 1 := ⟨_, rfl⟩
          have hkl : l + 1 = k := by omega
          have he := mvL_succ (m := m) (k := l) F (by omega)
          rw [hkl] at he
          have HE := hid he
          obtain ⟨K, hK⟩ : ∃ K, mvL m k F = K := ⟨_, rfl⟩
          rw [hK] at HSM HPF HIN HE
          have wl : IntKind.i64.wrap ((k : Int) - 1) = (l : Int) := by rw [IntKind.wrap_i64]; omega
          have HIN2 := hid (HIN.out.trans (In.swp K (i := k) (j := l) (by omega) (by omega)))
          rw [HE.out] at HIN2
          have HLT : Hid (k < N ∧ l < N ∧ l ≠ k) := hid (by omega)
          have hkN : (k : Int) < (N : Int) := by omega
          have hlN : (l : Int) < (N : Int) := by omega
          have k0 : (0 : Int) ≤ (k : Int) := by omega
          have l0 : (0 : Int) ≤ (l : Int) := by omega
          have HKL : Hid (l < k ∧ i ≤ l ∧ l ≤ m) := hid (by omega)
          clear HS hK hl he hkl
          have hat := HSM.out.at_ (i := k) HLT.out.1
          have hat2 := HSM.out.at_ (i := l) HLT.out.2.1
          have hfz := HSM.out.fz
          have HH := HSM.out.half (j := l) k (E (K l)) HLT.out.2.1 HLT.out.2.2
          have HW := hid (HSM.out.swap k l)
          have HT6 : Hid (Tn g w ((wr.setCell ⟨g, k, none⟩ (.int .i64 (E (K l)))).setCell ⟨g, l, none⟩ (.int .i64 (E (K k))))) := hid ((HT.out.put _).put _)
          have HPF6 := hid (HPF.out.swp HLT.out.1 HLT.out.2.1)
          obtain ⟨g0, fz2⟩ := HH
          go_upto_region 23 with fail
          go_region
          go_wp2_with fail
          go_roundw
          case rel => exact ⟨l, HKL.out.2.1, HKL.out.2.2, rfl, hid ⟨⟨by rw [← HE.out]; exact HW.out.stays (Below.refl _ _).drew, by rw [← HE.out]; exact HPF6.out⟩, HT6.out.trans (Tn.of_below (Below.refl _ _).drew), HIN2.out⟩⟩
          case measure => have := HKL.out; simp [intOf]; omega
        · obtain rfl : k = i := by omega
          have HF := hid (show ∃ F', SMI B g N c E F' wr ∧ Pf N F' ∧ Tn g w wr ∧ Srt r a b F' ∧ In a b F F' from ⟨_, HS.out.1.1, HS.out.1.2, HS.out.2.1, HSR.out, HS.out.2.2⟩)
          clear HS
          go_wp2_with fail
          refine bodyPost_ret (results_none rfl _ _ _) rfl ?_
          exact ⟨rfl, HF.out⟩
end Go.Proofs.Ytnfcibcpmaehoaa
