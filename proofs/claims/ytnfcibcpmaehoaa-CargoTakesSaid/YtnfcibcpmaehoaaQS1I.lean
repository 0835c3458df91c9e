/-
  The walk of symMerge of numbers, where one element stands to the left.
-/
import Derived.Test.YtnfcibcpmaehoaaQIsI
namespace Go.Proofs.Ytnfcibcpmaehoaa
open Go.RowKit

set_option maxRecDepth 100000 in
set_option maxHeartbeats 12800000 in
theorem sym1I_any (B g N c : Nat) (E : Nat → Int) (r : Nat → Int) (G : Nat) (lb : Array Value) (eg : ∀ args w, (callFunc G args).run Try.prog w = .ok (.enter G args) w) (hrk : Rk N r) (F : Nat → Nat) (hN : N ≤ 100000) (hf : Pf N F) (a m b : Nat) (ha : a < m) (hm : m < b) (hb : b ≤ N) (h2 : Srt r m b F) (hi : Idx a m b F) (w : World) (hM : SMI B g N c E F w) (hcm : CmI G lb g N E r w) (hone : m = a + 1) :
    Calls Try.prog 96 #[.slice (some ⟨g, 0, none⟩) N c, .int .i64 (a : Int), .int .i64 (m : Int), .int .i64 (b : Int), .func (.func G) #[] lb] w fun e w' => e = .returned (.tuple #[]) ∧ ∃ F', SMI B g N c E F' w' ∧ Pf N F' ∧ Tn g w w' ∧ Srt r a b F' ∧ In a b F F' := by
  have HCM0 := hid hcm
  have HRK := hid hrk
  have HPF := hid hf
  have HIX := hid hi
  have HS2 := hid (show Srt r (a + 1) b F by rw [← hone]; exact h2)
  have HM := hid hM
  have HON := hid hone
  have wone : IntKind.i64.wrap ((m : Int) - (a : Int)) = 1 := by rw [IntKind.wrap_i64]; omega
  have a0 : (0 : Int) ≤ (a : Int) := by omega
  have aN : (a : Int) < (N : Int) := by omega
  clear hM hcm hrk hf hi h2 hone
  go_enter Try.func96, Try.ntmps96
  go_wp2_with fail
  go_loopw [10, 11] (fun iv jv wr => ∃ i j : Nat, m ≤ i ∧ i ≤ j ∧ j ≤ b ∧ iv = .int .i64 i ∧ jv = .int .i64 j ∧ Hid ((SMI B g N c E F wr ∧ Tn g w wr) ∧ (∀ q, m ≤ q → q < i → r (F q) < r (F a)) ∧ (∀ q, j ≤ q → q < b → r (F a) < r (F q)))) (fun iv jv _ => (intOf jv).toNat - (intOf iv).toNat)
  case atStart => exact ⟨m, b, Nat.le_refl _, by omega, Nat.le_refl _, rfl, rfl, hid ⟨⟨HM.out, Tn.refl _ _⟩, fun q q1 q2 => by omega, fun q q1 q2 => by omega⟩⟩
  case round =>
    clear HM wone
    obtain ⟨i, j, hi1, hij, hj1, rfl, rfl, HS⟩ := hrel
    by_cases hlt : i < j
    · obtain ⟨h, hh⟩ : ∃ h, h = (i + j) / 2 := ⟨_, rfl⟩
      have q1 : ((i : Int) + (j : Int)) / 2 = (h : Int) := by omega
      have q2 : IntKind.i64.wrap ((i : Int) + (j : Int)) = (i : Int) + (j : Int) := by rw [IntKind.wrap_i64]; omega
      have q3 : IntKind.u64.wrap ((i : Int) + (j : Int)) = (i : Int) + (j : Int) := by rw [IntKind.wrap_u64]; omega
      have h0 : (0 : Int) ≤ (h : Int) := by omega
      have hhN : (h : Int) < (N : Int) := by omega
      have HH0 : Hid (i ≤ h ∧ h < j) := hid (by omega)
      have wh : IntKind.i64.wrap ((h : Int) + 1) = ((h + 1 : Nat) : Int) := by rw [IntKind.wrap_i64]; omega
      have HSM := hid HS.out.1.1
      have HT := hid HS.out.1.2
      have HLO := hid HS.out.2.1
      have HHI := hid HS.out.2.2
      clear HS
      obtain ⟨Z, hZ⟩ : ∃ Z, wr.heap.size = Z := ⟨_, rfl⟩
      have HZ := hid hZ
      have hZZ : Z ≤ wr.heap.size := Nat.le_of_eq hZ.symm
      have HTT : Hid (∀ W, Below Z wr W → Tn g wr W) := hid (fun W hW => Tn.of_below (by rw [hZ]; exact hW))
      have HCM := hid (fun W (hW : Below Z wr W) => HCM0.out W (F a) (F h) (HIX.out a h (Nat.le_refl _) (by have := HON.out; omega) (by omega) (by omega)) (HPF.out.lt h (by omega)) (HT.out.trans (HTT.out W hW)))
      have HS1 : Hid (((Below Z wr wr ∧ g < wr.heap.size) ∧ (wr.cell? ⟨g, h, none⟩ = some (.int .i64 (E (F h))))) ∧ (wr.cell? ⟨g, a, none⟩ = some (.int .i64 (E (F a))))) := hid ⟨⟨⟨Below.refl _ _, HSM.out.lt.2⟩, HSM.out.at_ (i := h) (by omega)⟩, HSM.out.at_ (i := a) (by omega)⟩
      clear hZ
      clear hh
      by_cases hcmp : r (F h) < r (F a)
      · have HLO2 : Hid (∀ q, m ≤ q → q < h + 1 → r (F q) < r (F a)) := hid (fun q q1 q2 => by
          by_cases e : q = h
          · subst e; exact hcmp
          · have := HS2.out q h (by have := HON.out; omega) (by omega) (by omega); omega)
        go_upto_region 5 with fail
        refine wp_region_held_drew (S := (fun wx => ((Below Z wr wx ∧ g < wx.heap.size) ∧ (wx.cell? ⟨g, h, none⟩ = some (.int .i64 (E (F h))))) ∧ (wx.cell? ⟨g, a, none⟩ = some (.int .i64 (E (F a)))))) (by kernel_rfl) (cm_keepI HS1.out ((Below.refl _ _).drew) hZZ) (fun hHeld => ?_)
        refine wpAnyH_take (i := 0) (oi := { dst := some 40, op := Op.move (Operand.tmp 4), type := 94, pos := "zsortanyfunc.go:390", after := #[], guard := none }) (v := ?_) rfl (by kernel_rfl) (by kernel_rfl) (by kernel_rfl) (fun _ _ _ h => h) (Or.inl ⟨by rfl, ?_⟩) (by assumption) ?_
        rotate_left
        · intro w hSw; (try dsimp only at hSw); go_simp; try (with_reducible rfl)
        try simp only [Act.put, List.setIfInBounds_toArray, List.set_cons_zero, List.set_cons_succ]
        refine wpAnyH_take (i := 1) (oi := { dst := some 41, op := Op.move (Operand.tmp 0), type := 69, pos := "zsortanyfunc.go:390", after := #[], guard := none }) (v := ?_) rfl (by kernel_rfl) (by kernel_rfl) (by kernel_rfl) (fun _ _ _ h => h) (Or.inl ⟨by rfl, ?_⟩) (by assumption) ?_
        rotate_left
        · intro w hSw; (try dsimp only at hSw); go_simp; try (with_reducible rfl)
        try simp only [Act.put, List.setIfInBounds_toArray, List.set_cons_zero, List.set_cons_succ]
        refine wpAnyH_take (i := 2) (oi := { dst := some 42, op := Op.move (Operand.tmp 12), type := 3, pos := "zsortanyfunc.go:390", after := #[], guard := none }) (v := ?_) rfl (by kernel_rfl) (by kernel_rfl) (by kernel_rfl) (fun _ _ _ h => h) (Or.inl ⟨by rfl, ?_⟩) (by assumption) ?_
        rotate_left
        · intro w hSw; (try dsimp only at hSw); go_simp; try (with_reducible rfl)
        try simp only [Act.put, List.setIfInBounds_toArray, List.set_cons_zero, List.set_cons_succ]
        refine wpAnyH_take (i := 3) (oi := { dst := some 43, op := Op.indexAddr 69 (Operand.tmp 41) (Operand.tmp 42), type := 0, pos := "zsortanyfunc.go:390", after := #[{ on := 1, ground := Ground.data }, { on := 2, ground := Ground.data }], guard := none }) (v := ?_) rfl (by kernel_rfl) (by kernel_rfl) (by kernel_rfl) (fun _ _ _ h => h) (Or.inl ⟨by rfl, ?_⟩) (by assumption) ?_
        rotate_left
        · intro w hSw; (try dsimp only at hSw); go_simp; try (with_reducible rfl)
        try simp only [Act.put, List.setIfInBounds_toArray, List.set_cons_zero, List.set_cons_succ]
        refine wpAnyH_take (i := 4) (oi := { dst := some 44, op := Op.load 3 (Operand.tmp 43), type := 3, pos := "zsortanyfunc.go:390", after := #[{ on := 3, ground := Ground.data }], guard := none }) (v := ?_) rfl (by kernel_rfl) (by kernel_rfl) (by kernel_rfl) (fun _ _ _ h => h) (Or.inl ⟨by rfl, ?_⟩) (by assumption) ?_
        rotate_left
        · intro w hSw; (try dsimp only at hSw); go_simp; try (with_reducible rfl)
        try simp only [Act.put, List.setIfInBounds_toArray, List.set_cons_zero, List.set_cons_succ]
        refine wpAnyH_take (i := 5) (oi := { dst := some 45, op := Op.move (Operand.tmp 0), type := 69, pos := "zsortanyfunc.go:390", after := #[], guard := none }) (v := ?_) rfl (by kernel_rfl) (by kernel_rfl) (by kernel_rfl) (fun _ _ _ h => h) (Or.inl ⟨by rfl, ?_⟩) (by assumption) ?_
        rotate_left
        · intro w hSw; (try dsimp only at hSw); go_simp; try (with_reducible rfl)
        try simp only [Act.put, List.setIfInBounds_toArray, List.set_cons_zero, List.set_cons_succ]
        refine wpAnyH_take (i := 6) (oi := { dst := some 46, op := Op.move (Operand.tmp 1), type := 3, pos := "zsortanyfunc.go:390", after := #[], guard := none }) (v := ?_) rfl (by kernel_rfl) (by kernel_rfl) (by kernel_rfl) (fun _ _ _ h => h) (Or.inl ⟨by rfl, ?_⟩) (by assumption) ?_
        rotate_left
        · intro w hSw; (try dsimp only at hSw); go_simp; try (with_reducible rfl)
        try simp only [Act.put, List.setIfInBounds_toArray, List.set_cons_zero, List.set_cons_succ]
        refine wpAnyH_take (i := 7) (oi := { dst := some 47, op := Op.indexAddr 69 (Operand.tmp 45) (Operand.tmp 46), type := 0, pos := "zsortanyfunc.go:390", after := #[{ on := 5, ground := Ground.data }, { on := 6, ground := Ground.data }], guard := none }) (v := ?_) rfl (by kernel_rfl) (by kernel_rfl) (by kernel_rfl) (fun _ _ _ h => h) (Or.inl ⟨by rfl, ?_⟩) (by assumption) ?_
        rotate_left
        · intro w hSw; (try dsimp only at hSw); go_simp; try (with_reducible rfl)
        try simp only [Act.put, List.setIfInBounds_toArray, List.set_cons_zero, List.set_cons_succ]
        refine wpAnyH_take (i := 8) (oi := { dst := some 48, op := Op.load 3 (Operand.tmp 47), type := 3, pos := "zsortanyfunc.go:390", after := #[{ on := 7, ground := Ground.data }], guard := none }) (v := ?_) rfl (by kernel_rfl) (by kernel_rfl) (by kernel_rfl) (fun _ _ _ h => h) (Or.inl ⟨by rfl, ?_⟩) (by assumption) ?_
        rotate_left
        · intro w hSw; (try dsimp only at hSw); go_simp; try (with_reducible rfl)
        try simp only [Act.put, List.setIfInBounds_toArray, List.set_cons_zero, List.set_cons_succ]
        refine wpAnyH_ready (rs := [9]) (by kernel_rfl) (by simp) ?_
        refine AllReadyH.cons (o := { dst := some 49, op := Op.call { callee := Callee.value (Operand.tmp 40), args := #[Operand.tmp 44, Operand.tmp 48], argTypes := #[3, 3] }, type := 3, pos := "zsortanyfunc.go:390", after := #[{ on := 0, ground := Ground.data }, { on := 4, ground := Ground.data }, { on := 8, ground := Ground.data }], guard := none }) rfl (fun K hK => ?_) AllReadyH.nil
        go_simp
        refine (HCM.out _ hHeld.1.1.1).mono ?_
        rintro e w5 ⟨s, rfl, hs, hb⟩
        have hs0 : s < 0 := hs.2 hcmp
        clear hs
        try go_wp2_with fail
        refine hK.out _ _ (cm_keepI (by assumption) hb hZZ) (fun hHeld2 => ?_)
        clear hK K
        try simp only [Act.put, List.setIfInBounds_toArray, List.set_cons_zero, List.set_cons_succ]
        refine wpAnyH_take (i := 10) (oi := { dst := some 50, op := Op.binOp BinOp.lss 3 (Operand.tmp 49) (Operand.const (Value.int IntKind.i64 0)) 3, type := 4, pos := "zsortanyfunc.go:390", after := #[{ on := 9, ground := Ground.data }], guard := none }) (v := ?_) rfl (by kernel_rfl) (by kernel_rfl) (by kernel_rfl) (fun _ _ _ h => h) (Or.inl ⟨by rfl, ?_⟩) (by assumption) ?_
        rotate_left
        · intro w hSw; (try dsimp only at hSw); go_simp; try (with_reducible rfl)
        try simp only [Act.put, List.setIfInBounds_toArray, List.set_cons_zero, List.set_cons_succ]
        refine wpAnyH_done (by kernel_rfl) ?_ _
        have hbw := hHeld2.1.1.1
        have HSM5 := hid (show SMI B g N c E F w5 from HSM.out.stays (hbw.mono (Nat.le_of_eq HZ.out)))
        have HT5 := hid (HT.out.trans (HTT.out _ hbw))
        clear hHeld hHeld2 hbw HS1 HSM HT hcmp
        go_wp2_with fail
        go_roundw
        case rel => exact ⟨h + 1, j, by have := HH0.out; omega, by have := HH0.out; omega, hj1, rfl, rfl, hid ⟨⟨HSM5.out, HT5.out⟩, HLO2.out, HHI.out⟩⟩
        case measure => have := HH0.out; simp [intOf]; omega
      · have HHI2 : Hid (∀ q, h ≤ q → q < b → r (F a) < r (F q)) := hid (fun q q1 q2 => by
          have hx := HRK.out.not HPF.out (p := h) (q := a) (by omega) (by omega) (by have := HON.out; omega) hcmp
          by_cases e : q = h
          · subst e; exact hx
          · have := HS2.out h q (by have := HON.out; omega) (by omega) q2; omega)
        go_upto_region 5 with fail
        refine wp_region_held_drew (S := (fun wx => ((Below Z wr wx ∧ g < wx.heap.size) ∧ (wx.cell? ⟨g, h, none⟩ = some (.int .i64 (E (F h))))) ∧ (wx.cell? ⟨g, a, none⟩ = some (.int .i64 (E (F a)))))) (by kernel_rfl) (cm_keepI HS1.out ((Below.refl _ _).drew) hZZ) (fun hHeld => ?_)
        refine wpAnyH_take (i := 0) (oi := { dst := some 40, op := Op.move (Operand.tmp 4), type := 94, pos := "zsortanyfunc.go:390", after := #[], guard := none }) (v := ?_) rfl (by kernel_rfl) (by kernel_rfl) (by kernel_rfl) (fun _ _ _ h => h) (Or.inl ⟨by rfl, ?_⟩) (by assumption) ?_
        rotate_left
        · intro w hSw; (try dsimp only at hSw); go_simp; try (with_reducible rfl)
        try simp only [Act.put, List.setIfInBounds_toArray, List.set_cons_zero, List.set_cons_succ]
        refine wpAnyH_take (i := 1) (oi := { dst := some 41, op := Op.move (Operand.tmp 0), type := 69, pos := "zsortanyfunc.go:390", after := #[], guard := none }) (v := ?_) rfl (by kernel_rfl) (by kernel_rfl) (by kernel_rfl) (fun _ _ _ h => h) (Or.inl ⟨by rfl, ?_⟩) (by assumption) ?_
        rotate_left
        · intro w hSw; (try dsimp only at hSw); go_simp; try (with_reducible rfl)
        try simp only [Act.put, List.setIfInBounds_toArray, List.set_cons_zero, List.set_cons_succ]
        refine wpAnyH_take (i := 2) (oi := { dst := some 42, op := Op.move (Operand.tmp 12), type := 3, pos := "zsortanyfunc.go:390", after := #[], guard := none }) (v := ?_) rfl (by kernel_rfl) (by kernel_rfl) (by kernel_rfl) (fun _ _ _ h => h) (Or.inl ⟨by rfl, ?_⟩) (by assumption) ?_
        rotate_left
        · intro w hSw; (try dsimp only at hSw); go_simp; try (with_reducible rfl)
        try simp only [Act.put, List.setIfInBounds_toArray, List.set_cons_zero, List.set_cons_succ]
        refine wpAnyH_take (i := 3) (oi := { dst := some 43, op := Op.indexAddr 69 (Operand.tmp 41) (Operand.tmp 42), type := 0, pos := "zsortanyfunc.go:390", after := #[{ on := 1, ground := Ground.data }, { on := 2, ground := Ground.data }], guard := none }) (v := ?_) rfl (by kernel_rfl) (by kernel_rfl) (by kernel_rfl) (fun _ _ _ h => h) (Or.inl ⟨by rfl, ?_⟩) (by assumption) ?_
        rotate_left
        · intro w hSw; (try dsimp only at hSw); go_simp; try (with_reducible rfl)
        try simp only [Act.put, List.setIfInBounds_toArray, List.set_cons_zero, List.set_cons_succ]
        refine wpAnyH_take (i := 4) (oi := { dst := some 44, op := Op.load 3 (Operand.tmp 43), type := 3, pos := "zsortanyfunc.go:390", after := #[{ on := 3, ground := Ground.data }], guard := none }) (v := ?_) rfl (by kernel_rfl) (by kernel_rfl) (by kernel_rfl) (fun _ _ _ h => h) (Or.inl ⟨by rfl, ?_⟩) (by assumption) ?_
        rotate_left
        · intro w hSw; (try dsimp only at hSw); go_simp; try (with_reducible rfl)
        try simp only [Act.put, List.setIfInBounds_toArray, List.set_cons_zero, List.set_cons_succ]
        refine wpAnyH_take (i := 5) (oi := { dst := some 45, op := Op.move (Operand.tmp 0), type := 69, pos := "zsortanyfunc.go:390", after := #[], guard := none }) (v := ?_) rfl (by kernel_rfl) (by kernel_rfl) (by kernel_rfl) (fun _ _ _ h => h) (Or.inl ⟨by rfl, ?_⟩) (by assumption) ?_
        rotate_left
        · intro w hSw; (try dsimp only at hSw); go_simp; try (with_reducible rfl)
        try simp only [Act.put, List.setIfInBounds_toArray, List.set_cons_zero, List.set_cons_succ]
        refine wpAnyH_take (i := 6) (oi := { dst := some 46, op := Op.move (Operand.tmp 1), type := 3, pos := "zsortanyfunc.go:390", after := #[], guard := none }) (v := ?_) rfl (by kernel_rfl) (by kernel_rfl) (by kernel_rfl) (fun _ _ _ h => h) (Or.inl ⟨by rfl, ?_⟩) (by assumption) ?_
        rotate_left
        · intro w hSw; (try dsimp only at hSw); go_simp; try (with_reducible rfl)
        try simp only [Act.put, List.setIfInBounds_toArray, List.set_cons_zero, List.set_cons_succ]
        refine wpAnyH_take (i := 7) (oi := { dst := some 47, op := Op.indexAddr 69 (Operand.tmp 45) (Operand.tmp 46), type := 0, pos := "zsortanyfunc.go:390", after := #[{ on := 5, ground := Ground.data }, { on := 6, ground := Ground.data }], guard := none }) (v := ?_) rfl (by kernel_rfl) (by kernel_rfl) (by kernel_rfl) (fun _ _ _ h => h) (Or.inl ⟨by rfl, ?_⟩) (by assumption) ?_
        rotate_left
        · intro w hSw; (try dsimp only at hSw); go_simp; try (with_reducible rfl)
        try simp only [Act.put, List.setIfInBounds_toArray, List.set_cons_zero, List.set_cons_succ]
        refine wpAnyH_take (i := 8) (oi := { dst := some 48, op := Op.load 3 (Operand.tmp 47), type := 3, pos := "zsortanyfunc.go:390", after := #[{ on := 7, ground := Ground.data }], guard := none }) (v := ?_) rfl (by kernel_rfl) (by kernel_rfl) (by kernel_rfl) (fun _ _ _ h => h) (Or.inl ⟨by rfl, ?_⟩) (by assumption) ?_
        rotate_left
        · intro w hSw; (try dsimp only at hSw); go_simp; try (with_reducible rfl)
        try simp only [Act.put, List.setIfInBounds_toArray, List.set_cons_zero, List.set_cons_succ]
        refine wpAnyH_ready (rs := [9]) (by kernel_rfl) (by simp) ?_
        refine AllReadyH.cons (o := { dst := some 49, op := Op.call { callee := Callee.value (Operand.tmp 40), args := #[Operand.tmp 44, Operand.tmp 48], argTypes := #[3, 3] }, type := 3, pos := "zsortanyfunc.go:390", after := #[{ on := 0, ground := Ground.data }, { on := 4, ground := Ground.data }, { on := 8, ground := Ground.data }], guard := none }) rfl (fun K hK => ?_) AllReadyH.nil
        go_simp
        refine (HCM.out _ hHeld.1.1.1).mono ?_
        rintro e w5 ⟨s, rfl, hs, hb⟩
        have hs0 : ¬ s < 0 := fun h => hcmp (hs.1 h)
        clear hs
        try go_wp2_with fail
        refine hK.out _ _ (cm_keepI (by assumption) hb hZZ) (fun hHeld2 => ?_)
        clear hK K
        try simp only [Act.put, List.setIfInBounds_toArray, List.set_cons_zero, List.set_cons_succ]
        refine wpAnyH_take (i := 10) (oi := { dst := some 50, op := Op.binOp BinOp.lss 3 (Operand.tmp 49) (Operand.const (Value.int IntKind.i64 0)) 3, type := 4, pos := "zsortanyfunc.go:390", after := #[{ on := 9, ground := Ground.data }], guard := none }) (v := ?_) rfl (by kernel_rfl) (by kernel_rfl) (by kernel_rfl) (fun _ _ _ h => h) (Or.inl ⟨by rfl, ?_⟩) (by assumption) ?_
        rotate_left
        · intro w hSw; (try dsimp only at hSw); go_simp; try (with_reducible rfl)
        try simp only [Act.put, List.setIfInBounds_toArray, List.set_cons_zero, List.set_cons_succ]
        refine wpAnyH_done (by kernel_rfl) ?_ _
        have hbw := hHeld2.1.1.1
        have HSM5 := hid (show SMI B g N c E F w5 from HSM.out.stays (hbw.mono (Nat.le_of_eq HZ.out)))
        have HT5 := hid (HT.out.trans (HTT.out _ hbw))
        clear hHeld hHeld2 hbw HS1 HSM HT hcmp
        go_wp2_with fail
        go_roundw
        case rel => exact ⟨i, h, hi1, HH0.out.1, by have := HH0.out; omega, rfl, rfl, hid ⟨⟨HSM5.out, HT5.out⟩, HLO.out, HHI2.out⟩⟩
        case measure => have := HH0.out; simp [intOf]; omega
    · obtain rfl : i = j := by omega
      have HSR := hid (one_right HS2.out (by have := HON.out; omega) hj1 (by rw [← HON.out]; exact HS.out.2.1) HS.out.2.2)
      obtain ⟨i1, hi1'⟩ : ∃ i1, i1 = i - 1 := ⟨_, rfl⟩
      have wi1 : IntKind.i64.wrap ((i : Int) - 1) = (i1 : Int) := by rw [IntKind.wrap_i64]; omega
      rw [← hi1'] at HSR
      have HM2 := hid (show (SMI B g N c E (mvR a a F) wr ∧ Pf N (mvR a a F)) ∧ Tn g w wr ∧ In a b F (mvR a a F) by rw [mvR_zero]; exact ⟨⟨HS.out.1.1, HPF.out⟩, HS.out.1.2, In.refl _ _ _⟩)
      have HII : Hid (a ≤ i1 ∧ i1 < b) := hid (by have := HON.out; omega)
      clear HS hi1' hlt
      go_wp2_with fail
      go_loopw [13] (fun kv wr => ∃ k : Nat, a ≤ k ∧ k ≤ i1 ∧ kv = .int .i64 k ∧ Hid ((SMI B g N c E (mvR a k F) wr ∧ Pf N (mvR a k F)) ∧ Tn g w wr ∧ In a b F (mvR a k F))) (fun kv _ => i1 - (intOf kv).toNat)
      case atStart => exact ⟨a, Nat.le_refl _, HII.out.1, rfl, HM2⟩
      case round =>
        clear HM2
        obtain ⟨k, hk1, hk2, rfl, HS⟩ := hrel
        by_cases hlt : k < i1
        · have HSM := hid HS.out.1.1
          have HPF := hid HS.out.1.2
          have HT := hid HS.out.2.1
          have HIN := hid HS.out.2.2
          have HE := hid (mvR_succ F hk1)
          obtain ⟨K, hK⟩ : ∃ K, mvR a k F = K := ⟨_, rfl⟩
          rw [hK] at HSM HPF HIN HE
          obtain ⟨l, hl⟩ : ∃ l, l = k + 1 := ⟨_, rfl⟩
          have wl : IntKind.i64.wrap ((k : Int) + 1) = (l : Int) := by rw [IntKind.wrap_i64]; have := HII.out; omega
          have HIN2 := hid (HIN.out.trans (In.swp K (i := k) (j := l) (by have := HII.out; omega) (by have := HII.out; omega)))
          rw [← hl] at HE
          rw [HE.out] at HIN2
          have HLT : Hid (k < N ∧ l < N ∧ l ≠ k) := hid (by have := HII.out; omega)
          have hkN : (k : Int) < (N : Int) := by have := HII.out; omega
          have hlN : (l : Int) < (N : Int) := by have := HII.out; omega
          have k0 : (0 : Int) ≤ (k : Int) := by omega
          have l0 : (0 : Int) ≤ (l : Int) := by omega
          have HKL : Hid (k < l ∧ l ≤ i1 ∧ a ≤ l) := hid (by omega)
          clear HS hK hl
          have hat := HSM.out.at_ (i := k) HLT.out.1
          have hat2 := HSM.out.at_ (i := l) HLT.out.2.1
          have hfz := HSM.out.fz
          have HH := HSM.out.half (j := l) k (E (K l)) HLT.out.2.1 HLT.out.2.2
          have HW := hid (HSM.out.swap k l)
          have HT6 : Hid (Tn g w ((wr.setCell ⟨g, k, none⟩ (.int .i64 (E (K l)))).setCell ⟨g, l, none⟩ (.int .i64 (E (K k))))) := hid ((HT.out.put _).put _)
          have HPF6 := hid (HPF.out.swp HLT.out.1 HLT.out.2.1)
          obtain ⟨g0, fz2⟩ := HH
          go_upto_region 11 with fail
          go_region
          go_wp2_with fail
          go_roundw
          case rel => exact ⟨l, HKL.out.2.2, HKL.out.2.1, rfl, hid ⟨⟨by rw [← HE.out]; exact HW.out.stays (Below.refl _ _).drew, by rw [← HE.out]; exact HPF6.out⟩, HT6.out.trans (Tn.of_below (Below.refl _ _).drew), HIN2.out⟩⟩
          case measure => have := HKL.out; simp [intOf]; omega
        · obtain rfl : k = i1 := by omega
          have HF := hid (show ∃ F', SMI B g N c E F' wr ∧ Pf N F' ∧ Tn g w wr ∧ Srt r a b F' ∧ In a b F F' from ⟨_, HS.out.1.1, HS.out.1.2, HS.out.2.1, HSR.out, HS.out.2.2⟩)
          clear HS
          go_wp2_with fail
          refine bodyPost_ret (results_none rfl _ _ _) rfl ?_
          exact ⟨rfl, HF.out⟩
end Go.Proofs.Ytnfcibcpmaehoaa
