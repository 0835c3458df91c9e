/-
  The walks of fault and sails of a chart.
-/
import Derived.Test.YtkpnngpnjimogaaWAsk
namespace Go.Proofs.Ytkpnngpnjimogaa
open Go.RowKit

/-- What keeps a kind from a tile that is sea or not, of a slope. -/
def flt (s : Bool) (a k : Int) : Int := if k = 3 ∧ a ≠ 0 then 9 else if k ≠ 3 ∧ s = true then 9 else if k = 1 ∧ a ≠ 0 then 5 else if k = 2 ∧ up a = -1 then 5 else 0
theorem flt_bd (s : Bool) (a k : Int) : flt s a k = 0 ∨ flt s a k = 5 ∨ flt s a k = 9 := by unfold flt; (repeat' split) <;> simp
set_option maxHeartbeats 3200000 in
theorem fault_any (d : Wat) (hg : Good d.W d.H d.n d.Z) (M u : Nat) (hu : u < d.W * d.H) (k e : Int) (he : e = flt (sea d.W d.Z u) (gsl d.W d.Z u) k) (w : World) (hC : Cx d M w) :
    Calls Try.prog 46 #[d.cht M, .int .i64 u, .int .i64 k] w fun r w' => r = .returned (.int .i64 e) ∧ Nx d M w w' := by
  have HB := hid (CB.start hC)
  have hlk := look_any d hg M u hu
  unfold gnd at hlk
  obtain ⟨s, hs⟩ : ∃ s, s = sea d.W d.Z u := ⟨_, rfl⟩
  obtain ⟨a, ha⟩ : ∃ s, s = gsl d.W d.Z u := ⟨_, rfl⟩
  obtain ⟨b, hb⟩ : ∃ s, s = gba d.W d.Z u := ⟨_, rfl⟩
  rw [← hs, ← ha, ← hb] at hlk
  rw [← hs, ← ha] at he
  have HL := hid hlk
  have HE := hid he
  have HUP := hid (fun w => upper_any a w)
  obtain ⟨p, hp⟩ : ∃ p, p = up a := ⟨_, rfl⟩
  rw [← hp] at HUP
  have HP := hid hp
  clear hlk he hs ha hb hC hp hu hg
  by_cases h3 : k = 3
  · subst h3
    by_cases h0 : a = 0
    · subst h0
      have he' : e = 0 := by rw [HE.out]; unfold flt; simp []
      subst he'
      clear HE
      go_enter Try.func46, Try.ntmps46
      go_wp2_with (first | (go_at_call 51; refine (HL.out _ HB.out.cx).mono ?_; rintro r w1 ⟨rfl, hn⟩; have HB1 := hid (HB.out.on hn); clear hn) | (go_at_call 75; refine (HUP.out _).mono ?_; rintro r w2 ⟨rfl, rfl⟩))
      go_ret
      exact ⟨rfl, HB1.out.nx.go (Joins.below_alloc1 _ _)⟩
    · skip
      have he' : e = 9 := by rw [HE.out]; unfold flt; simp [h0]
      subst he'
      clear HE
      go_enter Try.func46, Try.ntmps46
      go_wp2_with (first | (go_at_call 51; refine (HL.out _ HB.out.cx).mono ?_; rintro r w1 ⟨rfl, hn⟩; have HB1 := hid (HB.out.on hn); clear hn) | (go_at_call 75; refine (HUP.out _).mono ?_; rintro r w2 ⟨rfl, rfl⟩))
      go_ret
      exact ⟨rfl, HB1.out.nx.go (Joins.below_alloc1 _ _)⟩
  · by_cases hs : s = true
    · subst hs
      have he' : e = 9 := by rw [HE.out]; unfold flt; simp [h3]
      subst he'
      clear HE
      go_enter Try.func46, Try.ntmps46
      go_wp2_with (first | (go_at_call 51; refine (HL.out _ HB.out.cx).mono ?_; rintro r w1 ⟨rfl, hn⟩; have HB1 := hid (HB.out.on hn); clear hn) | (go_at_call 75; refine (HUP.out _).mono ?_; rintro r w2 ⟨rfl, rfl⟩))
      go_ret
      exact ⟨rfl, HB1.out.nx.go (Joins.below_alloc1 _ _)⟩
    · have hs' : s = false := by cases s <;> simp_all
      subst hs'
      clear hs
      by_cases h1 : k = 1
      · subst h1
        by_cases h0 : a = 0
        · subst h0
          have he' : e = 0 := by rw [HE.out]; unfold flt; simp []
          subst he'
          clear HE
          go_enter Try.func46, Try.ntmps46
          go_wp2_with (first | (go_at_call 51; refine (HL.out _ HB.out.cx).mono ?_; rintro r w1 ⟨rfl, hn⟩; have HB1 := hid (HB.out.on hn); clear hn) | (go_at_call 75; refine (HUP.out _).mono ?_; rintro r w2 ⟨rfl, rfl⟩))
          go_ret
          exact ⟨rfl, HB1.out.nx.go (Joins.below_alloc1 _ _)⟩
        · skip
          have he' : e = 5 := by rw [HE.out]; unfold flt; simp [h0]
          subst he'
          clear HE
          go_enter Try.func46, Try.ntmps46
          go_wp2_with (first | (go_at_call 51; refine (HL.out _ HB.out.cx).mono ?_; rintro r w1 ⟨rfl, hn⟩; have HB1 := hid (HB.out.on hn); clear hn) | (go_at_call 75; refine (HUP.out _).mono ?_; rintro r w2 ⟨rfl, rfl⟩))
          go_ret
          exact ⟨rfl, HB1.out.nx.go (Joins.below_alloc1 _ _)⟩
      · by_cases h2 : k = 2
        · subst h2
          by_cases hq : p = -1
          · have hu : up a = -1 := HP.out.symm.trans hq
            subst hq
            have he' : e = 5 := by rw [HE.out]; unfold flt; simp [hu]
            subst he'
            clear HE
            clear hu
            go_enter Try.func46, Try.ntmps46
            go_wp2_with (first | (go_at_call 51; refine (HL.out _ HB.out.cx).mono ?_; rintro r w1 ⟨rfl, hn⟩; have HB1 := hid (HB.out.on hn); clear hn) | (go_at_call 75; refine (HUP.out _).mono ?_; rintro r w2 ⟨rfl, rfl⟩))
            go_ret
            exact ⟨rfl, HB1.out.nx.go (Joins.below_alloc1 _ _)⟩
          · have hu : up a ≠ -1 := fun h => hq (HP.out.trans h)
            have he' : e = 0 := by rw [HE.out]; unfold flt; simp [hu]
            subst he'
            clear HE
            clear hu
            go_enter Try.func46, Try.ntmps46
            go_wp2_with (first | (go_at_call 51; refine (HL.out _ HB.out.cx).mono ?_; rintro r w1 ⟨rfl, hn⟩; have HB1 := hid (HB.out.on hn); clear hn) | (go_at_call 75; refine (HUP.out _).mono ?_; rintro r w2 ⟨rfl, rfl⟩))
            go_ret
            exact ⟨rfl, HB1.out.nx.go (Joins.below_alloc1 _ _)⟩
        · skip
          have he' : e = 0 := by rw [HE.out]; unfold flt; simp [h1, h2, h3]
          subst he'
          clear HE
          go_enter Try.func46, Try.ntmps46
          go_wp2_with (first | (go_at_call 51; refine (HL.out _ HB.out.cx).mono ?_; rintro r w1 ⟨rfl, hn⟩; have HB1 := hid (HB.out.on hn); clear hn) | (go_at_call 75; refine (HUP.out _).mono ?_; rintro r w2 ⟨rfl, rfl⟩))
          go_ret
          exact ⟨rfl, HB1.out.nx.go (Joins.below_alloc1 _ _)⟩
set_option maxHeartbeats 1600000 in
theorem sails_any (d : Wat) (hg : Good d.W d.H d.n d.Z) (hm : d.m = d.W * d.H) (M : Nat) (t : Int) (r : Bool) (hr : r = true ↔ ∃ u : Nat, t = u ∧ u < d.W * d.H ∧ wt d.W d.Z d.K u = true) (w : World) (hC : Cx d M w) :
    Calls Try.prog 56 #[d.cht M, .int .i64 t] w fun e w' => e = .returned (.bool r) ∧ Nx d M w w' := by
  have hsd := hg.side
  have HB := hid (CB.start hC)
  have HT := hid (fun w => cisTile_any d hsd.2.1 hsd.2.2.2 M t w)
  have HR := hid hr
  by_cases h : tileB d.W d.H t = true
  · have h' := h
    unfold tileB at h'
    simp only [Bool.and_eq_true, decide_eq_true_eq] at h'
    obtain ⟨u, hu⟩ : ∃ u : Nat, t = u := ⟨t.toNat, by omega⟩
    subst hu
    have hu2 : u < d.W * d.H := by omega
    have hrw : r = wt d.W d.Z d.K u := by
      rw [Bool.eq_iff_iff, HR.out]
      exact ⟨fun ⟨v, e, _, h⟩ => by obtain rfl : u = v := by omega
                                    exact h, fun h => ⟨u, rfl, hu2, h⟩⟩
    have HW := hid (cwet_any d hg hm M u hu2 r hrw)
    rw [h] at HT
    clear hr h h' hu2 hrw hC hg hm hsd
    go_enter Try.func56, Try.ntmps56
    go_wp2_with (first | (go_at_call 44; refine (HT.out _).mono ?_; rintro e w1 ⟨rfl, hb⟩; have HB1 := hid (HB.out.below hb); have c0 := HB1.out.c0; have c1 := HB1.out.c1; have c2 := HB1.out.c2; have c3 := HB1.out.c3; have c4 := HB1.out.c4; have c5 := HB1.out.c5; have hz := HB1.out.size; clear hb) | (go_at_call 57; refine (HW.out _ HB1.out.cx).mono ?_; rintro e w2 ⟨rfl, hn⟩; have HB2 := hid (HB1.out.on hn); clear hn))
    go_ret
    exact ⟨rfl, HB2.out.nx⟩
  · have hrf : r = false := by
      rw [Bool.eq_false_iff, ne_eq, HR.out]
      rintro ⟨v, rfl, hv, _⟩
      exact h (by unfold tileB; simp; omega)
    subst hrf
    have h' : tileB d.W d.H t = false := by simpa using h
    rw [h'] at HT
    clear hr h h' hC hg hm hsd
    go_enter Try.func56, Try.ntmps56
    go_wp2_with (go_at_call 44; refine (HT.out _).mono ?_; rintro e w1 ⟨rfl, hb⟩; have HB1 := hid (HB.out.below hb); clear hb)
    go_ret
    exact ⟨rfl, HB1.out.nx⟩
end Go.Proofs.Ytkpnngpnjimogaa
