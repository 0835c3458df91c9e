/-
  The walk of spread.
-/
import Derived.Test.YtokpdjdpeaccbaaGSpr
namespace Go.Proofs.Ytokpdjdpeaccbaa
open Go.RowKit

theorem infoF : (Try.prog.info? 22).map (fun i => (i.zero, i.size, i.bytes)) = some (some (.slice none 0 0), 1, 24) := by kernel_rfl
theorem run_mkF (n : Nat) (hn : n ≤ 1000000) (w : World) : (Instr.makeSlice 63 (.int .i64 (n : Int)) (.int .i64 (n : Int))).run Try.prog w = .ok (.slice (some ⟨w.heap.size, 0, none⟩) n n) (w.alloc (.cells (madeCells #[.slice none 0 0] n) 22)) :=
  run_make_row' 63 22 (.slice none 0 0) 24 Try.underlying63 infoF rfl .i64 .i64 n (by omega) (by omega) w
theorem run_mkI (n : Nat) (hn : n ≤ 1000000) (w : World) : (Instr.makeSlice 28 (.int .i64 (n : Int)) (.int .i64 (n : Int))).run Try.prog w = .ok (.slice (some ⟨w.heap.size, 0, none⟩) n n) (w.alloc (.cells (madeCells #[.int .i64 0] n) 3)) :=
  run_make_row' 28 3 (.int .i64 0) 8 Try.underlying28 info3 rfl .i64 .i64 n (by omega) (by omega) w
theorem run_mkE (c : Nat) (hc : c ≤ 1000000) (w : World) : (Instr.makeSlice 22 (.int .i64 0) (.int .i64 (c : Int))).run Try.prog w = .ok (.slice (some ⟨w.heap.size, 0, none⟩) 0 c) (w.alloc (.cells (madeCells #[.int .i64 0, .int .i64 0, .int .i64 0] (c * 3)) 41)) := by
  obtain ⟨i0, hi0, hi1, hi2, hi3⟩ := info_parts infoE
  have := run_make (P := Try.prog) (w := w) 22 41 i0 _ Try.underlying22 hi0 hi1 .i64 .i64 0 (c : Int) (by omega) (by omega) (by rw [hi3]; omega) (by omega)
  rw [this, hi2]
  rfl
theorem made_one (z : Value) (n : Nat) : (madeCells #[z] n).toList = vals n (fun _ => z) := by
  rw [toList_madeCells_one]
  apply List.ext_getElem?
  intro i
  by_cases hi : i < n
  · rw [vals_get _ hi, List.getElem?_replicate, if_pos hi]
  · rw [List.getElem?_eq_none (by simp; omega), List.getElem?_eq_none (by rw [vals_length]; omega)]
theorem row_made (w : World) (B : Nat) (z : Value) (e : TypeId) (n : Nat) (hB : B ≤ w.heap.size) (hn : n ≤ 1000000) : (w.alloc (.cells (madeCells #[z] n) e)).ownsRow B e 1 (.slice (some ⟨w.heap.size, 0, none⟩) n n) n (vals n (fun _ => z)) := by
  refine ⟨by simp [vals_length], .inr ⟨w.heap.size, n, _, rfl, hB, heap_new _ _, Nat.le_refl _, by unfold maxLen; omega, by simp [size_madeCells], ?_⟩⟩
  rw [made_one]; exact List.take_of_length_le (by rw [vals_length]; omega)
/-- What spread leaves. -/
def Sprd (n : Nat) (G : Gr) (w : World) (e : Ending) (w' : World) : Prop := ∃ F, e = .returned (.slice (some ⟨F, 0, none⟩) n n) ∧ FM w'.heap.size n G F w' ∧ Below w.heap.size w w'
theorem Sp.fan {B F n : Nat} {G : Gr} {E : Nat → Ed} {V : Nat → Value} {w : World} (h : Sp B F n G.f E G.m V w) (hE : ∀ i, i < G.m → E i = ⟨G.f i, G.t i, G.c i⟩) : FM w.heap.size n G F w where
  lt := (h.fr.lt F rfl).2
  row u hu := by
    obtain ⟨so, sc, hs⟩ := row_slice (h.rw u hu)
    rw [outsN_outs] at hs
    refine ⟨so, sc, h.at_ hu hs, fun t ht => ?_⟩
    have hr := h.rw u hu
    rw [outsN_outs, hs] at hr
    obtain ⟨g, cap, e, _, hl⟩ := hr.form (by omega)
    cases e
    have hc := RowE.cell hr ht
    have hi := (getD_outs (G := G) ht).1
    rw [hE _ hi] at hc
    exact ⟨g, 0, rfl, hl, by rw [Nat.zero_add]; exact hc.1, by rw [Nat.zero_add]; exact hc.2.1, by rw [Nat.zero_add]; exact hc.2.2⟩
/-- A node's list is made anew. -/
theorem Sp.new {B F n u c : Nat} {f : Nat → Nat} {E : Nat → Ed} {V : Nat → Value} {w : World} (h : Sp B F n f E 0 V w) (hu : u < n) (hB : B ≤ w.heap.size) (hc : c ≤ 1000000) :
    Sp B F n f E 0 (updV V u (.slice (some ⟨w.heap.size, 0, none⟩) 0 c)) ((w.alloc (.cells (madeCells #[.int .i64 0, .int .i64 0, .int .i64 0] (c * 3)) 41)).setCell ⟨F, u, none⟩ (.slice (some ⟨w.heap.size, 0, none⟩) 0 c)) := by
  have hba : Below w.heap.size w (w.alloc (.cells (madeCells #[.int .i64 0, .int .i64 0, .int .i64 0] (c * 3)) 41)) := (Below.refl _ _).alloc (Nat.le_refl _) _
  have h1 := h.stays hba
  have hFl := (h.fr.lt F rfl).2
  have hnew : (w.alloc (.cells (madeCells #[.int .i64 0, .int .i64 0, .int .i64 0] (c * 3)) 41)).ownsRow B 41 3 (.slice (some ⟨w.heap.size, 0, none⟩) 0 c) 0 [] := World.ownsRow_made w _ _ hB (by unfold maxLen; omega) (by simp [size_madeCells])
  obtain ⟨cF, hF⟩ := own_form h1.fr (g := F) rfl
  have hne : w.heap.size ≠ F := by have : F < w.heap.size := hFl; omega
  refine ⟨?_, fun v hv => ?_, fun a b ha hb hab g' e => ?_⟩
  · have := (h1.fr.stored u (.slice (some ⟨w.heap.size, 0, none⟩) 0 c)).1
    rw [vals_set] at this
    exact this
  · by_cases e : v = u
    · subst e
      have h2 : updV V v (.slice (some ⟨w.heap.size, 0, none⟩) 0 c) v = .slice (some ⟨w.heap.size, 0, none⟩) 0 c := by simp [updV]
      rw [h2]
      exact row_other hnew (by simpa [Value.ownBlock] using hne) _
    · have h2 : updV V u (.slice (some ⟨w.heap.size, 0, none⟩) 0 c) v = V v := by simp [updV, e]
      rw [h2]
      refine row_other (h1.rw v hv) (fun hg => ?_) _
      obtain ⟨cc, hcc⟩ := own_form (h1.rw v hv) hg
      exact type_ne hcc hF (by decide) rfl
  · by_cases ea : a = u
    · subst ea
      have hb' : b ≠ a := Ne.symm hab
      simp only [updV, if_true, if_neg hb'] at e ⊢
      simp [Value.ownBlock] at e
      subst e
      intro h2
      have := ((h.rw b hb).lt _ h2).2
      omega
    · by_cases eb : b = u
      · subst eb
        simp only [updV, if_true, if_neg ea] at e ⊢
        intro h2
        simp [Value.ownBlock] at h2
        have := ((h.rw a ha).lt _ e).2
        omega
      · simp only [updV, if_neg ea, if_neg eb] at e ⊢
        exact h.ap a b ha hb hab g' e
/-- The counts turn. -/
theorem cnt_turn {w : World} {B b n u : Nat} {cnt : Nat → Nat} (h : w.ownsRow B 3 1 (.slice (some ⟨b, 0, none⟩) n n) n (vals n (iv fun u => (cnt u : Int)))) :
    (w.setCell ⟨b, u, none⟩ (.int .i64 ((cnt u : Int) + 1))).ownsRow B 3 1 (.slice (some ⟨b, 0, none⟩) n n) n (vals n (iv fun v => ((if v = u then cnt u + 1 else cnt v : Nat) : Int))) := by
  have := (h.stored u (.int .i64 ((cnt u : Int) + 1))).1
  rw [vals_set] at this
  have e : (fun i => if i = u then Value.int .i64 ((cnt u : Int) + 1) else iv (fun u => (cnt u : Int)) i) = iv fun v => ((if v = u then cnt u + 1 else cnt v : Nat) : Int) := by
    funext v
    by_cases hv : v = u
    · simp [iv, hv]
    · simp [iv, hv]
  rw [e] at this
  exact this
set_option maxRecDepth 100000 in
set_option maxHeartbeats 12800000 in
theorem spread_any (n ec : Nat) (G : Gr) (eo : Option Addr) (E : Nat → Ed) (hn : n ≤ 2000) (hgm : G.m ≤ 100000) (hE : ∀ i, i < G.m → E i = ⟨G.f i, G.t i, G.c i⟩) (hf : ∀ i, i < G.m → G.f i < n) (w : World) (hEd : Eds w eo G.m E) :
    Calls Try.prog 43 #[.int .i64 (n : Int), .slice eo G.m ec] w (Sprd n G w) := by
  have hmI := run_mkI n (by omega)
  have hmF := run_mkF n (by omega)
  obtain ⟨m, hm⟩ : ∃ m, G.m = m := ⟨_, rfl⟩
  have HM := hid hm
  obtain ⟨B, hB⟩ : ∃ B, w.heap.size = B := ⟨_, rfl⟩
  have HBW := hid hB
  have HE := hid hE
  have HF := hid hf
  rw [hm] at hEd HE HF hgm ⊢
  have hba := (Below.refl B w).alloc (by rw [hB]; exact Nat.le_refl _) (.cells (madeCells #[.int .i64 0] n) 3)
  have HEd : Hid (∀ wr, Below B w wr → Eds wr eo m E) := hid (fun wr hb => hEd.stays (by rw [hB]; exact hb))
  have hr0 := row_made w B (.int .i64 0) 3 n (by rw [hB]; exact Nat.le_refl _) (by omega)
  rw [hB] at hr0
  have HR0 : Hid ((w.alloc (.cells (madeCells #[.int .i64 0] n) 3)).ownsRow B 3 1 (.slice (some ⟨B, 0, none⟩) n n) n (vals n (Go.Proofs.Ytokpdjdpeaccbaa.iv fun _ => ((0 : Nat) : Int))) ∧ Below B w (w.alloc (.cells (madeCells #[.int .i64 0] n) 3))) := hid ⟨hr0, hba⟩
  clear hr0 hE hf hEd hm hba
  go_enter Try.func43, Try.ntmps43
  go_wp2_with fail
  clear hB hmI
  go_loopw [17] (fun iv wr => ∃ (i : Nat) (cnt : Nat → Nat), i ≤ m ∧ iv = .int .i64 i ∧ Hid (∀ u, cnt u ≤ i) ∧ Hid (wr.ownsRow B 3 1 (.slice (some ⟨B, 0, none⟩) n n) n (vals n (Go.Proofs.Ytokpdjdpeaccbaa.iv fun u => (cnt u : Int))) ∧ Below B w wr)) (fun iv _ => m - (intOf iv).toNat)
  case atStart => exact ⟨0, fun _ => 0, Nat.zero_le _, rfl, hid (fun _ => Nat.le_refl _), HR0⟩
  case round =>
    clear HR0
    obtain ⟨i, cnt, hi, rfl, HC, HR⟩ := hrel
    by_cases hlt : i < m
    · obtain ⟨b, off, e, hbl, a0, a1, a2⟩ := HEd.out wr HR.out.2 i hlt
      subst e
      have hfu := HF.out i hlt
      have hEi := HE.out i hlt
      obtain ⟨u, hu⟩ : ∃ u, G.f i = u := ⟨_, rfl⟩
      rw [hu] at hfu hEi
      rw [hEi] at a0 a1 a2
      simp only at a0 a1 a2
      have hba : Below wr.heap.size wr (wr.alloc (.cells #[.int .i64 (u : Int), .int .i64 (G.t i), .int .i64 (G.c i)] 41)) := (Below.refl _ _).alloc (Nat.le_refl _) _
      have hBs : B ≤ wr.heap.size := by rw [← HBW.out]; exact HR.out.2.size
      have hr2 := row_stays HR.out.1 hba
      have hb2 := HR.out.2.trans (hba.mono hBs)
      have HRR : Hid ((wr.alloc (.cells #[.int .i64 (u : Int), .int .i64 (G.t i), .int .i64 (G.c i)] 41)).ownsRow B 3 1 (.slice (some ⟨B, 0, none⟩) n n) n (vals n (Go.Proofs.Ytokpdjdpeaccbaa.iv fun u => (cnt u : Int))) ∧ Below B w (wr.alloc (.cells #[.int .i64 (u : Int), .int .i64 (G.t i), .int .i64 (G.c i)] 41))) := hid ⟨hr2, hb2⟩
      have HN := hid (heap_new wr (.cells #[.int .i64 (u : Int), .int .i64 (G.t i), .int .i64 (G.c i)] 41))
      have hBX : B < wr.heap.size := (HR.out.1.lt B rfl).2
      clear hba hr2 hb2 hEi hu hBs
      go_upto_region 5 with fail
      clear a0 a1 a2 HR
      generalize wr.heap.size = X at HN hBX ⊢
      generalize wr.alloc _ = w4 at HRR HN ⊢
      have d0 := cell_of_row w4 X 0 _ _ _ HN.out
      simp only [List.getElem?_toArray, List.getElem?_cons_zero] at d0
      have c0 := (HRR.out.1.cellAt u (by omega)).trans (vals_get _ hfu)
      have f0 := HRR.out.1.frozenAt u
      simp only [Go.Proofs.Ytokpdjdpeaccbaa.iv] at c0
      have hcu := HC.out u
      have HT : Hid ((w4.setCell ⟨B, u, none⟩ (.int .i64 ((cnt u : Int) + 1))).ownsRow B 3 1 (.slice (some ⟨B, 0, none⟩) n n) n (vals n (Go.Proofs.Ytokpdjdpeaccbaa.iv fun v => ((if v = u then cnt u + 1 else cnt v : Nat) : Int))) ∧ Below B w (w4.setCell ⟨B, u, none⟩ (.int .i64 ((cnt u : Int) + 1)))) :=
        hid ⟨cnt_turn HRR.out.1, HRR.out.2.setCell (p := ⟨B, u, none⟩) (Nat.le_refl _) _⟩
      clear HN HRR
      go_wp2_with fail
      go_roundw
      case rel => exact ⟨i + 1, fun v => if v = u then cnt u + 1 else cnt v, by omega, by go_num, hid (fun v => by have := HC.out v; by_cases e : v = u <;> simp only [e, if_true, if_false] <;> omega), HT⟩
      case measure => simp [intOf]; omega
    · obtain rfl : m = i := by omega
      obtain ⟨hcr, hbel⟩ := HR.out
      have hF0 := row_made wr B (.slice none 0 0) 22 n (by rw [← HBW.out]; exact hbel.size) (by omega)
      obtain ⟨Fb, hFb⟩ : ∃ Fb, wr.heap.size = Fb := ⟨_, rfl⟩
      have hba : Below wr.heap.size wr (wr.alloc (.cells (madeCells #[.slice none 0 0] n) 22)) := (Below.refl _ _).alloc (Nat.le_refl _) _
      have hcr2 := row_stays hcr hba
      have hb2 := hbel.trans (hba.mono (by rw [← HBW.out]; exact hbel.size))
      have hBF : B < Fb := by rw [← hFb]; exact (hcr.lt B rfl).2
      rw [hFb] at hF0
      have HS : Hid (Sp B Fb n G.f E 0 (fun _ => .slice none 0 0) (wr.alloc (.cells (madeCells #[.slice none 0 0] n) 22)) ∧ (wr.alloc (.cells (madeCells #[.slice none 0 0] n) 22)).ownsRow B 3 1 (.slice (some ⟨B, 0, none⟩) n n) n (vals n (Go.Proofs.Ytokpdjdpeaccbaa.iv fun u => (cnt u : Int))) ∧ Below B w (wr.alloc (.cells (madeCells #[.slice none 0 0] n) 22))) :=
        hid ⟨⟨hF0, fun u _ => by show World.ownsRow _ _ _ _ _ 0 []; exact World.ownsRow_nil _ _ _ _, fun u v _ _ _ g h => by simp [Value.ownBlock] at h⟩, hcr2, hb2⟩
      clear hcr hbel hF0 hba hcr2 hb2 HR
      go_wp2_with fail
      clear hmF hFb
      go_loopw [33] (fun iv wr => ∃ (i : Nat) (V : Nat → Value), i ≤ n ∧ iv = .int .i64 i ∧ Hid (Sp B Fb n G.f E 0 V wr ∧ wr.ownsRow B 3 1 (.slice (some ⟨B, 0, none⟩) n n) n (vals n (Go.Proofs.Ytokpdjdpeaccbaa.iv fun u => (cnt u : Int))) ∧ Below B w wr)) (fun iv _ => n - (intOf iv).toNat)
      case atStart => exact ⟨0, fun _ => .slice none 0 0, Nat.zero_le _, rfl, HS⟩
      case round =>
        clear HS
        obtain ⟨i, V, hi, rfl, HS⟩ := hrel
        by_cases hlt : i < n
        · have hmE := run_mkE (cnt i) (by have := HC.out i; omega)
          have hsp := HS.out.1
          have c0 := (HS.out.2.1.cellAt i (by omega)).trans (vals_get _ hlt)
          have hFl : Fb < wr.heap.size := (hsp.fr.lt Fb rfl).2
          have c1 := hsp.at_ hlt rfl
          have hsp2 := hsp.stays ((Below.refl _ _).alloc (Nat.le_refl _) (.cells (madeCells #[.int .i64 0, .int .i64 0, .int .i64 0] (cnt i * 3)) 41))
          have c2 := hsp2.at_ hlt rfl
          have f2 := hsp2.fr.frozenAt i
          simp only [Go.Proofs.Ytokpdjdpeaccbaa.iv] at c0
          have HT := hid (Sp.new (c := cnt i) hsp hlt (by rw [← HBW.out]; exact HS.out.2.2.size) (by have := HC.out i; omega))
          have hba : Below wr.heap.size wr (wr.alloc (.cells (madeCells #[.int .i64 0, .int .i64 0, .int .i64 0] (cnt i * 3)) 41)) := (Below.refl _ _).alloc (Nat.le_refl _) _
          have HT2 : Hid (((wr.alloc (.cells (madeCells #[.int .i64 0, .int .i64 0, .int .i64 0] (cnt i * 3)) 41)).setCell ⟨Fb, i, none⟩ (.slice (some ⟨wr.heap.size, 0, none⟩) 0 (cnt i))).ownsRow B 3 1 (.slice (some ⟨B, 0, none⟩) n n) n (vals n (Go.Proofs.Ytokpdjdpeaccbaa.iv fun u => (cnt u : Int))) ∧ Below B w ((wr.alloc (.cells (madeCells #[.int .i64 0, .int .i64 0, .int .i64 0] (cnt i * 3)) 41)).setCell ⟨Fb, i, none⟩ (.slice (some ⟨wr.heap.size, 0, none⟩) 0 (cnt i)))) :=
            hid ⟨row_other (row_stays HS.out.2.1 hba) (by simp [Value.ownBlock]; omega) _, (HS.out.2.2.trans (hba.mono (by rw [← HBW.out]; exact HS.out.2.2.size))).setCell (p := ⟨Fb, i, none⟩) (by show B ≤ Fb; omega) _⟩
          clear hsp hsp2 hba HS
          go_wp2_with fail
          clear hmE c0 c1 c2 f2
          go_roundw
          case rel =>
            have h1 := HT.out
            have h2 := HT2.out
            rw [World.setCell_alloc_past _ _ _ _ hFl] at h1 h2
            exact ⟨i + 1, _, by omega, by go_num, hid ⟨h1, h2⟩⟩
          case measure => simp [intOf]; omega
        · obtain rfl : n = i := by omega
          go_wp2_with fail
          have HS3 : Hid (Sp B Fb n G.f E 0 V wr ∧ Below B w wr) := hid ⟨HS.out.1, HS.out.2.2⟩
          clear HS HC hBF
          go_loopw [46] (fun iv wr => ∃ (i : Nat) (V : Nat → Value), i ≤ m ∧ iv = .int .i64 i ∧ Hid (Sp B Fb n G.f E i V wr ∧ Below B w wr)) (fun iv _ => m - (intOf iv).toNat)
          case atStart => exact ⟨0, V, Nat.zero_le _, rfl, HS3⟩
          case round =>
            clear HS3
            obtain ⟨i, V, hi, rfl, HS⟩ := hrel
            by_cases hlt : i < m
            · obtain ⟨b, off, e, hbl, a0, a1, a2⟩ := HEd.out wr HS.out.2 i hlt
              subst e
              have hfu := HF.out i hlt
              have hEi := HE.out i hlt
              obtain ⟨u, hu⟩ : ∃ u, G.f i = u := ⟨_, rfl⟩
              rw [hu] at hfu hEi
              rw [hEi] at a0 a1 a2
              simp only at a0 a1 a2
              have HEi := hid hEi
              have HU := hid hu
              have hba : Below wr.heap.size wr (wr.alloc (.cells #[.int .i64 (u : Int), .int .i64 (G.t i), .int .i64 (G.c i)] 41)) := (Below.refl _ _).alloc (Nat.le_refl _) _
              have hBs : B ≤ wr.heap.size := by rw [← HBW.out]; exact HS.out.2.size
              have HN := hid (heap_new wr (.cells #[.int .i64 (u : Int), .int .i64 (G.t i), .int .i64 (G.c i)] 41))
              obtain ⟨so, sc, hV⟩ := row_slice (HS.out.1.rw u hfu)
              have HXV : Hid ((V u).ownBlock ≠ some wr.heap.size) := hid (fun h => by have := ((HS.out.1.rw u hfu).lt _ h).2; omega)
              have HSS : Hid (Sp B Fb n G.f E i V (wr.alloc (.cells #[.int .i64 (u : Int), .int .i64 (G.t i), .int .i64 (G.c i)] 41)) ∧ Below B w (wr.alloc (.cells #[.int .i64 (u : Int), .int .i64 (G.t i), .int .i64 (G.c i)] 41))) := hid ⟨HS.out.1.stays hba, HS.out.2.trans (hba.mono hBs)⟩
              have HV := hid hV
              clear hba hEi hu hV HS
              go_upto_region 16 with fail
              clear a0 a1 a2
              have hBs2 : B ≤ (wr.alloc (.cells #[.int .i64 (u : Int), .int .i64 (G.t i), .int .i64 (G.c i)] 41)).heap.size := by rw [World.size_alloc]; omega
              generalize wr.heap.size = X at HN HXV ⊢
              generalize wr.alloc _ = w4 at HSS HN hBs2 ⊢
              have hki := outsN_len G.f i u
              refine spr_add B Fb n i u X (outsN G.f i u).length sc so G.f E V ⟨u, G.t i, G.c i⟩ w4 HSS.out.1 ⟨HN.out⟩ hfu HV.out rfl HEi.out HU.out (by rw [← HV.out]; exact HXV.out) hBs2 (by omega) _ _ _ _ _ _ _ _ _ _ _ _ _ _ _ _ _ _ _ _ _ _ _ _ _ _ _ _ _ _ _ _ _ _ _ _ _ _ _ _ _ _ _ _ _ _ _ _ _ _ _ _ _ _ _ _ _ _ _ _ _ _ _ ?_
              intro w5 g c hD
              have hsp := hD.sp
              have HD : Hid (Sp B Fb n G.f E (i + 1) (updV V u (.slice (some ⟨g, 0, none⟩) ((outsN G.f i u).length + 1) c)) w5 ∧ Below B w w5) := hid ⟨hD.sp, HSS.out.2.drew.trans hD.bl⟩
              clear hD hsp HSS HN HXV HV HEi HU
              dsimp only
              go_wp2_with fail
              go_roundw
              case rel => exact ⟨i + 1, _, by omega, by go_num, HD⟩
              case measure => simp [intOf]; omega
            · obtain rfl : m = i := by omega
              go_wp2_with fail
              go_ret
              have hmm := HM.out
              subst hmm
              exact ⟨Fb, rfl, Sp.fan HS.out.1 HE.out, by rw [HBW.out]; exact HS.out.2⟩
end Go.Proofs.Ytokpdjdpeaccbaa
