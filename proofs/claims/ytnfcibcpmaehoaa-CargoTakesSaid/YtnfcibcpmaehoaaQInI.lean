/-
  The walk of inOrder of numbers.
-/
import Derived.Test.YtnfcibcpmaehoaaQStI
namespace Go.Proofs.Ytnfcibcpmaehoaa
open Go.RowKit

set_option maxHeartbeats 1600000 in
theorem cloneI_any (ao : Option Addr) (n cap : Nat) (F : Nat → Value) (hn1 : 0 < n) (hn : n ≤ 100000) (hF : ∀ j, j < n → (F j).oneCell' = true) (w : World) (hI : Vals w ao n F) : Calls Try.prog 89 #[.slice ao n cap] w fun r w' =>
    ∃ g c, r = .returned (.slice (some ⟨g, 0, none⟩) n c) ∧ w'.ownsRow w.heap.size 3 1 (.slice (some ⟨g, 0, none⟩) n c) n (vals n F) ∧ Below w.heap.size w w' := by
  obtain ⟨i0, hi, hz0, hz1, hz2⟩ := info_parts info3
  have HIN := hid (And.intro hi (And.intro hz0 (And.intro hz1 hz2)))
  clear hi hz0 hz1 hz2
  obtain ⟨b, off, rfl, hbz, hcell⟩ := hI.one hn1
  have HC := hid hcell
  have HF := hid hF
  clear hcell hI hF
  have q22 : ∀ (w : World) (a : Option Addr) (n c n' c' : Nat), (binOp .eql 69 (.slice a n c) (.slice none n' c')).run Try.prog w = .ok (.bool a.isNone) w := fun w a n c n' c' => Lib.run_eql_slice_nil w _ _ a n c n' c' Try.underlying69
  have u22 : ∀ w, Sem.run Try.prog (underlying 69) w = .ok (TypeDesc.slice 3) w := run_underlying Try.underlying69
  go_enter Try.func89, Try.ntmps89
  go_wp2_with (at_builtin; refine wpList_append_own _ rfl _ _ 69 rfl w.heap.size 3 i0 (.int .i64 0) 1 8 Try.underlying69 HIN.out.1 HIN.out.2.1 HIN.out.2.2.1 HIN.out.2.2.2 rfl (by decide) _ _ _ rfl (World.ownsRow_made w #[] 0 (Nat.le_refl _) (Nat.zero_le _) rfl) ⟨b, off, none⟩ n cap (vals n F) rfl ?qc1 ?qc2 ?qc3 ?qc4 ?qc5 ?qc6 ?_)
  case qc1 => simp [vals_length]
  case qc2 =>
    intro j u hj
    have hjn : j < n := by have := (List.getElem?_eq_some_iff.1 hj).1; rwa [vals_length] at this
    rw [vals_get _ hjn] at hj
    rw [Addr.add_lit, World.cell?_alloc_past _ _ _ hbz, HC.out j hjn]
    exact hj
  case qc3 =>
    intro u hu
    obtain ⟨x, hx, rfl⟩ := List.mem_map.1 hu
    exact HF.out x (by simpa using hx)
  case qc4 => unfold maxLen; omega
  case qc5 => omega
  case qc6 => simp
  intro v' w1 hown hgrow hnil
  have hown' : w1.ownsRow w.heap.size 3 1 v' n (vals n F) := by simpa using hown
  obtain ⟨g, c, rfl, _, _⟩ := hown'.form (by omega)
  have HO := hid hown'
  have HG := hid hgrow
  clear hown hown' hgrow hnil
  go_wp2
  go_ret
  refine ⟨g, c, rfl, HO.out, ?_⟩
  exact ((Below.refl _ w).alloc (Nat.le_refl _) _).grown HG.out (by simp) (by intro k hk; simp [Value.ownBlock] at hk; omega)
set_option maxRecDepth 100000 in
set_option maxHeartbeats 1600000 in
theorem ins_nilI (G : Nat) (lb : Array Value) (w : World) : Calls Try.prog 95 #[.slice none 0 0, .int .i64 0, .int .i64 0, .func (.func G) #[] lb] w fun e w' => e = .returned (.tuple #[]) ∧ Below w.heap.size w w' := by
  go_enter Try.func95, Try.ntmps95
  go_wp2_with fail
  refine wp_loop_rounds 1 ?_
  rw [rounds_succ]
  go_wp2_with fail
  go_end0
  exact ⟨rfl, Below.refl _ _⟩
set_option maxRecDepth 100000 in
set_option maxHeartbeats 1600000 in
theorem stb_nilI (G : Nat) (lb : Array Value) (w : World) : Calls Try.prog 92 #[.slice none 0 0, .int .i64 0, .func (.func G) #[] lb] w fun e w' => e = .returned (.tuple #[]) ∧ Below w.heap.size w w' := by
  have HC := hid (fun w => ins_nilI G lb w)
  go_enter Try.func92, Try.ntmps92
  go_wp2_with fail
  refine wp_loop_rounds 1 ?_
  rw [rounds_succ]
  go_wp2_with fail
  refine (HC.out _).mono ?_
  rintro e5 w5 ⟨rfl, hb⟩
  go_wp2_with fail
  refine wp_loop_rounds 1 ?_
  rw [rounds_succ]
  go_wp2_with fail
  go_end0
  exact ⟨rfl, hb⟩
set_option maxRecDepth 100000 in
set_option maxHeartbeats 1600000 in
theorem srt_nilI (G : Nat) (lb : Array Value) (w : World) : Calls Try.prog 90 #[.slice none 0 0, .func (.func G) #[] lb] w fun e w' => e = .returned (.tuple #[]) ∧ Below w.heap.size w w' := by
  have HC := hid (stb_nilI G lb w)
  go_enter Try.func90, Try.ntmps90
  go_wp2_with fail
  refine HC.out.mono ?_
  rintro e5 w5 ⟨rfl, hb⟩
  go_wp2_with fail
  go_end0
  exact ⟨rfl, hb⟩
/-- What inOrder leaves. -/
def OrdI (N : Nat) (E : Nat → Int) (r : Nat → Int) (w : World) (e : Ending) (w' : World) : Prop := ∃ g c F, e = .returned (.slice (some ⟨g, 0, none⟩) N c) ∧ w'.ownsRow w.heap.size 3 1 (.slice (some ⟨g, 0, none⟩) N c) N (vals N (iv fun p => E (F p))) ∧ Pf N F ∧ Srt r 0 N F ∧ Below w.heap.size w w'
set_option maxRecDepth 100000 in
set_option maxHeartbeats 1600000 in
theorem inoI_any (vo : Option Addr) (N vc : Nat) (E : Nat → Int) (r : Nat → Int) (G : Nat) (lb : Array Value) (eg : ∀ args w, (callFunc G args).run Try.prog w = .ok (.enter G args) w) (hrk : Rk N r) (h0 : 0 < N) (hN : N ≤ 100000) (w : World) (hV : Vals w vo N (iv E)) (hcm : ∀ g w1, w.heap.size ≤ g → Below w.heap.size w w1 → CmI G lb g N E r w1) :
    Calls Try.prog 81 #[.slice vo N vc, .func (.func G) #[] lb] w (OrdI N E r w) := by
  have HC := hid (cloneI_any vo N vc (iv E) h0 hN (fun _ _ => rfl) w hV)
  have HCM := hid hcm
  have HS := hid (fun B g c w1 hM hc => sortI_any B g N c E r G lb eg hrk hN w1 hM hc)
  obtain ⟨B, hB⟩ : ∃ B, w.heap.size = B := ⟨_, rfl⟩
  have HB := hid hB
  have HN0 := hid h0
  clear hV hcm hrk hN h0 eg
  go_enter Try.func81, Try.ntmps81
  go_wp2_with fail
  refine HC.out.mono ?_
  rintro e w1 ⟨g, c, rfl, hrow, hb1⟩
  have HR := hid hrow
  have HB1 := hid hb1
  have HC2 := hid (HS.out _ g c w1 hrow (HCM.out g w1 (World.ownsRow.lt hrow g rfl).1 hb1))
  clear hrow hb1 HC HS HCM HN0
  go_wp2_with fail
  refine HC2.out.mono ?_
  rintro e w2 ⟨rfl, F, k1, k2, k3, k4⟩
  have HF := hid (show OrdI N E r w (.returned (.slice (some ⟨g, 0, none⟩) N c)) w2 from ⟨g, c, F, rfl, k1, k2, k4, HB1.out.trans (k3.below (World.ownsRow.lt HR.out g rfl).1 HB1.out.size)⟩)
  clear k1 k2 k3 k4 HC2 HR HB1
  go_wp2_with fail
  go_ret
  exact HF.out
set_option maxRecDepth 100000 in
set_option maxHeartbeats 1600000 in
theorem ino_nilI (G : Nat) (lb : Array Value) (w : World) : Calls Try.prog 81 #[.slice none 0 0, .func (.func G) #[] lb] w fun e w' => e = .returned (.slice none 0 0) ∧ Below w.heap.size w w' := by
  have HS := hid (srt_nilI G lb)
  have HC : Hid (∀ w, Calls Try.prog 89 #[.slice none 0 0] w fun e w' => e = .returned (.slice none 0 0) ∧ w = w') := hid (fun w => by
    have q22 : ∀ (w : World) (a : Option Addr) (n c n' c' : Nat), (binOp .eql 69 (.slice a n c) (.slice none n' c')).run Try.prog w = .ok (.bool a.isNone) w := fun w a n c n' c' => Lib.run_eql_slice_nil w _ _ a n c n' c' Try.underlying69
    go_enter Try.func89, Try.ntmps89
    go_wp2
    go_ret
    exact ⟨rfl, rfl⟩)
  go_enter Try.func81, Try.ntmps81
  go_wp2_with fail
  refine (HC.out _).mono ?_
  rintro e w1 ⟨rfl, rfl⟩
  go_wp2_with fail
  refine (HS.out _).mono ?_
  rintro e w2 ⟨rfl, hb⟩
  go_wp2_with fail
  go_ret
  exact ⟨rfl, hb⟩
end Go.Proofs.Ytnfcibcpmaehoaa
