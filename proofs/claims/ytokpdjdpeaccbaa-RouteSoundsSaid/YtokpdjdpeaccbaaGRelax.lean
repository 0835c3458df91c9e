/-
  The walk of relax: a way becomes known to a search.
-/
import Derived.Test.YtokpdjdpeaccbaaGSM
namespace Go.Proofs.Ytokpdjdpeaccbaa
open Go.RowKit
attribute [local go_sem] run_end run_rank

theorem SM.note {B : Nat} {A : Ad} {n : Nat} {best : Nat → Wy} {known done : Nat → Bool} {v : Value} {q : Nat} {L : Nat → Wy} {w : World} (h : SM B A n best known done v q L w) (j : Nat) (x : Wy) :
    SM B A n (updG best j x) (updG known j true) done v q L (((((w.setCell ⟨A.rb, j * 4, none⟩ (.int .i64 x.nd)).setCell ⟨A.rb, j * 4 + 1, none⟩ (.int .i64 x.co)).setCell ⟨A.rb, j * 4 + 2, none⟩ (.int .i64 x.ns)).setCell ⟨A.rb, j * 4 + 3, none⟩ (.int .i64 x.nx)).setCell ⟨A.rk, j, none⟩ (.bool true)) ∧
    STurn A.T v v w (((((w.setCell ⟨A.rb, j * 4, none⟩ (.int .i64 x.nd)).setCell ⟨A.rb, j * 4 + 1, none⟩ (.int .i64 x.co)).setCell ⟨A.rb, j * 4 + 2, none⟩ (.int .i64 x.ns)).setCell ⟨A.rb, j * 4 + 3, none⟩ (.int .i64 x.nx)).setCell ⟨A.rk, j, none⟩ (.bool true)) :=
  ⟨((h.note1 j x).1.note2 j).1, (h.note1 j x).2.trans ((h.note1 j x).1.note2 j).2⟩
/-- The closure relax of a search. -/
abbrev relaxV (A : Ad) : Value := .func (.func 77) #[] #[.pointer (some ⟨A.k, 0, none⟩), .pointer (some ⟨A.b, 0, none⟩), .pointer (some ⟨A.o, 0, none⟩)]
/-- What relax leaves. -/
def Relaxed (B : Nat) (A : Ad) (n : Nat) (done : Nat → Bool) (C : Wy → Prop) (v : Value) (q : Nat) (x : Wy) (w : World) (e : Ending) (w' : World) : Prop :=
  e = .returned (.tuple #[]) ∧ ∃ best' known' v' q' L', SM B A n best' known' done v' q' L' w' ∧ SI n (fun c => C c ∨ c = x) best' known' done q' L' ∧ STurn A.T v v' w w' ∧ q' ≤ q + 1
theorem sm_keep {B : Nat} {A : Ad} {n : Nat} {best : Nat → Wy} {known done : Nat → Bool} {v : Value} {q : Nat} {L : Nat → Wy} {x : Wy} {j X : Nat} {P : Prop} {w w' : World} (hj : j < n) {t : Bool} (ht : known j = t)
    (h : (SM B A n best known done v q L w ∧ w.heap[X]? = some (.cells #[.int .i64 x.nd, .int .i64 x.co, .int .i64 x.ns, .int .i64 x.nx] 68 (0, 0))) ∧ P) (k : Below w.heap.size w w') :
    (SM B A n best known done v q L w' ∧ w'.heap[X]? = some (.cells #[.int .i64 x.nd, .int .i64 x.co, .int .i64 x.ns, .int .i64 x.nx] 68 (0, 0))) ∧ w'.cell? ⟨X, 0, none⟩ = some (.int .i64 x.nd) ∧ w'.cell? ⟨X, 1, none⟩ = some (.int .i64 x.co) ∧ w'.cell? ⟨X, 2, none⟩ = some (.int .i64 x.ns) ∧ w'.cell? ⟨X, 3, none⟩ = some (.int .i64 x.nx) ∧
      w'.cell? ⟨A.b, 0, none⟩ = some (.slice (some ⟨A.rb, 0, none⟩) n n) ∧ w'.cell? ⟨A.k, 0, none⟩ = some (.slice (some ⟨A.rk, 0, none⟩) n n) ∧ w'.cell? ⟨A.rk, j, none⟩ = some (.bool t) ∧
      w'.cell? ⟨A.rb, j * 4, none⟩ = some (.int .i64 (best j).nd) ∧ w'.cell? ⟨A.rb, j * 4 + 1, none⟩ = some (.int .i64 (best j).co) ∧ w'.cell? ⟨A.rb, j * 4 + 2, none⟩ = some (.int .i64 (best j).ns) ∧ w'.cell? ⟨A.rb, j * 4 + 3, none⟩ = some (.int .i64 (best j).nx) := by
  have h' := h.1.1.stays k
  have hx := (k.block _ (heap_lt h.1.2)).trans h.1.2
  obtain ⟨a0, a1, a2, a3⟩ := cells_ofW x hx
  obtain ⟨b0, b1, b2, b3⟩ := h'.rb.cell hj
  exact ⟨⟨h', hx⟩, a0, a1, a2, a3, cell_of_row _ _ 0 _ _ _ h'.cb, cell_of_row _ _ 0 _ _ _ h'.ck, ht ▸ (RowB.cell h'.rk hj).1, b0, b1, b2, b3⟩
theorem relaxed_yes {B : Nat} {A : Ad} {n : Nat} {best : Nat → Wy} {known done : Nat → Bool} {C : Wy → Prop} {v : Value} {q : Nat} {L : Nat → Wy} {x : Wy} {w w3 w4 : World} {e : Ending} (hS : SI n C best known done q L) (hx : x.nd < n) (hb : known x.nd = true → lt3 x.rk (best x.nd).rk)
    (hM : SM B A n (updG best x.nd x) (updG known x.nd true) done v q L w3) (hT : STurn A.T v v w w3) (hp : Pushed A.o B v q L x w3 e w4) : Relaxed B A n done C v q x w e w4 := by
  obtain ⟨he, g, c, L', hQ, ht, hh, hI⟩ := hp
  exact ⟨he, _, _, _, q + 1, L', hM.turn ht hQ, hS.better x hx hb hI hh, hT.trans (ht.s (.inl rfl)), Nat.le_refl _⟩
set_option maxRecDepth 100000 in
set_option maxHeartbeats 6400000 in
theorem relax_any (B : Nat) (A : Ad) (n : Nat) (best : Nat → Wy) (known done : Nat → Bool) (C : Wy → Prop) (v : Value) (q : Nat) (L : Nat → Wy) (x : Wy) (hx : x.nd < n) (hq : q ≤ 90000000) (w : World) (hM : SM B A n best known done v q L w) (hS : SI n C best known done q L) :
    Calls Try.prog 77 #[wv x, .pointer (some ⟨A.k, 0, none⟩), .pointer (some ⟨A.b, 0, none⟩), .pointer (some ⟨A.o, 0, none⟩)] w (Relaxed B A n done C v q x w) := by
  have hq' : q ≤ 100000000 := by omega
  have hb0 : Below w.heap.size w (w.alloc (.cells #[.int .i64 x.nd, .int .i64 x.co, .int .i64 x.ns, .int .i64 x.nx] 68)) := (Below.refl _ _).alloc (Nat.le_refl _) _
  have HM0 := hid (hM.stays hb0)
  have HX0 := hid (heap_new w (.cells #[.int .i64 x.nd, .int .i64 x.co, .int .i64 x.ns, .int .i64 x.nx] 68))
  have HT0 := hid (STurn.of_below (T := A.T) v hb0)
  have HS := hid hS
  obtain ⟨j, hj⟩ : ∃ j, j = x.nd := ⟨_, rfl⟩
  have hjn : j < n := by omega
  obtain ⟨X, hX⟩ : ∃ X, w.heap.size = X := ⟨_, rfl⟩
  have HJ := hid hj
  have hap := hM.apart
  obtain ⟨l1, l2, l3, l4, l5, l6⟩ := hM.lts
  have HAP : Hid (A.rb ≠ X ∧ A.rk ≠ X ∧ A.rb ≠ A.b ∧ A.rk ≠ A.b ∧ A.rb ≠ A.k ∧ A.rk ≠ A.k ∧ A.rb ≠ A.rk) := hid ⟨by omega, by omega, Ne.symm hap.brb, Ne.symm hap.brk, Ne.symm hap.krb, Ne.symm hap.krk, hap.rbk⟩
  have HXT : Hid (¬ A.T X ∧ v.ownBlock ≠ some X) := hid ⟨by unfold Ad.T; omega, fun e => by have := (hM.qm.row.lt _ e).2; omega⟩
  rw [hX] at HX0
  clear hM hS hb0 hj hap l1 l2 l3 l4 l5 l6
  go_enter Try.func77, Try.ntmps77
  go_upto_region 1 with fail
  clear hX
  generalize w.alloc _ = w1 at HM0 HX0 HT0 ⊢
  obtain ⟨c0, c1, c2, c3⟩ := cells_ofW x HX0.out
  go_wp2_with (go_at_call 105; refine (end_any x _).mono ?_; rw [← HJ.out]; rintro e w2 ⟨rfl, hbel⟩)
  have HM2 := hid (HM0.out.stays hbel)
  have HX2 := hid ((hbel.block _ (heap_lt HX0.out)).trans HX0.out)
  have HT2 := hid (HT0.out.trans (STurn.of_below v hbel))
  clear HM0 HX0 HT0 hbel c0 c1 c2 c3
  cases hk : known j
  · have HK := hid hk
    have HB : Hid (known x.nd = true → lt3 x.rk (best x.nd).rk) := hid (fun h => by rw [← HJ.out, HK.out] at h; cases h)
    have ck := cell_of_row w2 A.k 0 _ _ _ HM2.out.ck
    simp only [List.getElem?_toArray, List.getElem?_cons_zero] at ck
    have k0 := (RowB.cell HM2.out.rk hjn).1
    rw [hk] at k0
    clear hk
    go_wp2_with fail
    go_quiet (fail)
    have HM3 := hid (HM2.out.stays (Joins.below_draws _ _ nq))
    have HX3 := hid (((Joins.below_draws _ _ nq).block _ (heap_lt HX2.out)).trans HX2.out)
    have HT3 := hid (HT2.out.trans (STurn.of_below v (Joins.below_draws _ _ nq)))
    clear HM2 HX2 HT2 ck k0
    generalize w2.drewN nq = w3 at HM3 HX3 HT3 ⊢
    go_wp2_with fail
    obtain ⟨c0, c1, c2, c3⟩ := cells_ofW x HX3.out
    have cb := cell_of_row w3 A.b 0 _ _ _ HM3.out.cb
    have ck := cell_of_row w3 A.k 0 _ _ _ HM3.out.ck
    simp only [List.getElem?_toArray, List.getElem?_cons_zero] at cb ck
    obtain ⟨b0, b1, b2, b3⟩ := HM3.out.rb.cell hjn
    have bf : ∀ i, w3.frozen? ⟨A.rb, i, none⟩ = false := fun i => HM3.out.rb.frozenAt i
    obtain ⟨k0, kf⟩ := RowB.cell HM3.out.rk hjn
    obtain ⟨n1, n2, n3, n4, n5, n6, n7⟩ := HAP.out
    go_region_held3 (fun w' => w'.cell? ⟨X, 0, none⟩ = some (.int .i64 x.nd) ∧ w'.cell? ⟨X, 1, none⟩ = some (.int .i64 x.co) ∧ w'.cell? ⟨X, 2, none⟩ = some (.int .i64 x.ns) ∧ w'.cell? ⟨X, 3, none⟩ = some (.int .i64 x.nx) ∧ w'.cell? ⟨A.b, 0, none⟩ = some (.slice (some ⟨A.rb, 0, none⟩) n n) ∧ w'.cell? ⟨A.k, 0, none⟩ = some (.slice (some ⟨A.rk, 0, none⟩) n n))
      (go_keep)
      (fail)
    clear c0 c1 c2 c3 cb ck b0 b1 b2 b3 bf k0 kf n1 n2 n3 n4 n5 n6 n7
    obtain ⟨hm4, ht4⟩ := HM3.out.note j x
    have HM4 := hid (hm4.stays ((Below.refl _ _).drew))
    have HT4 := hid (HT3.out.trans (ht4.trans (STurn.of_below v ((Below.refl _ _).drew))))
    have hx4 := (((Below.refl _ _).drew).block X (Nat.lt_of_lt_of_le (heap_lt HX3.out) ht4.size)).trans ((ht4.block X (heap_lt HX3.out) HXT.out.1 HXT.out.2).trans HX3.out)
    clear hm4 ht4
    rename_i hh
    clear hh
    generalize World.drew _ = w4 at HM4 HT4 hx4 ⊢
    obtain ⟨c0, c1, c2, c3⟩ := cells_ofW x hx4
    have hB4 : B ≤ w4.heap.size := by have := HM4.out.rb.lt _ rfl; omega
    go_wp2_with fail
    refine (push_any A.o B v q L x hq' w4 hB4 HM4.out.qm HS.out.hp).mono ?_
    intro e w5 hp
    have he := hp.1
    have HP := hid hp
    clear hp
    subst he
    go_wp2_with fail
    go_end0
    rw [HJ.out] at HM4
    exact relaxed_yes HS.out hx HB.out HM4.out HT4.out HP.out
  · have HK := hid hk
    obtain ⟨t, ht⟩ : ∃ t, decide (lt3 x.rk (best j).rk) = t := ⟨_, rfl⟩
    have HTT := hid ht
    clear ht hk
    go_wp2_with fail
    go_region_held3 (fun w' => (SM B A n best known done v q L w' ∧ w'.heap[X]? = some (.cells #[.int .i64 x.nd, .int .i64 x.co, .int .i64 x.ns, .int .i64 x.nx] 68 (0, 0))) ∧ w'.cell? ⟨X, 0, none⟩ = some (.int .i64 x.nd) ∧ w'.cell? ⟨X, 1, none⟩ = some (.int .i64 x.co) ∧ w'.cell? ⟨X, 2, none⟩ = some (.int .i64 x.ns) ∧ w'.cell? ⟨X, 3, none⟩ = some (.int .i64 x.nx) ∧
      w'.cell? ⟨A.b, 0, none⟩ = some (.slice (some ⟨A.rb, 0, none⟩) n n) ∧ w'.cell? ⟨A.k, 0, none⟩ = some (.slice (some ⟨A.rk, 0, none⟩) n n) ∧ w'.cell? ⟨A.rk, j, none⟩ = some (.bool true) ∧
      w'.cell? ⟨A.rb, j * 4, none⟩ = some (.int .i64 (best j).nd) ∧ w'.cell? ⟨A.rb, j * 4 + 1, none⟩ = some (.int .i64 (best j).co) ∧ w'.cell? ⟨A.rb, j * 4 + 2, none⟩ = some (.int .i64 (best j).ns) ∧ w'.cell? ⟨A.rb, j * 4 + 3, none⟩ = some (.int .i64 (best j).nx))
      (first
        | exact sm_keep hjn HK.out (And.intro ⟨HM2.out, HX2.out⟩ trivial) ((Below.refl _ _).drew)
        | exact sm_keep hjn HK.out (by assumption) hbel
        | assumption)
      (first
        | (go_at_call 46; (refine (better_is t HTT.out _).mono ?_); rintro e w3 ⟨rfl, hbel⟩))
    rename_i hh
    have HM3 := hid hh.1.1
    have HX3 := hid hh.1.2
    have hbb : Below w2.heap.size w2 w3 := Below.trans (a := w2) (b := w2.drew) ((Below.refl _ _).drew) hbel
    have HT3 := hid (HT2.out.trans (STurn.of_below v hbb))
    clear hh HM2 HX2 HT2 hbel hbb
    cases htt : t
    · subst htt
      have hfin : Relaxed B A n done C v q x w (.returned (.tuple #[])) w3 := by
        refine ⟨rfl, best, known, v, q, L, HM3.out, HS.out.worse x hx (by rw [← HJ.out]; exact HK.out) (fun h => ?_), HT3.out, by omega⟩
        have := HTT.out
        rw [HJ.out] at this
        simp [h] at this
      go_wp2_with fail
      go_end0
      exact hfin
    · subst htt
      have HB : Hid (known x.nd = true → lt3 x.rk (best x.nd).rk) := hid (fun _ => by have := HTT.out; rw [HJ.out] at this; simpa using this)
      clear HTT HK
      go_wp2_with fail
      obtain ⟨c0, c1, c2, c3⟩ := cells_ofW x HX3.out
      have cb := cell_of_row w3 A.b 0 _ _ _ HM3.out.cb
      have ck := cell_of_row w3 A.k 0 _ _ _ HM3.out.ck
      simp only [List.getElem?_toArray, List.getElem?_cons_zero] at cb ck
      obtain ⟨b0, b1, b2, b3⟩ := HM3.out.rb.cell hjn
      have bf : ∀ i, w3.frozen? ⟨A.rb, i, none⟩ = false := fun i => HM3.out.rb.frozenAt i
      obtain ⟨k0, kf⟩ := RowB.cell HM3.out.rk hjn
      obtain ⟨n1, n2, n3, n4, n5, n6, n7⟩ := HAP.out
      go_region_held3 (fun w' => w'.cell? ⟨X, 0, none⟩ = some (.int .i64 x.nd) ∧ w'.cell? ⟨X, 1, none⟩ = some (.int .i64 x.co) ∧ w'.cell? ⟨X, 2, none⟩ = some (.int .i64 x.ns) ∧ w'.cell? ⟨X, 3, none⟩ = some (.int .i64 x.nx) ∧ w'.cell? ⟨A.b, 0, none⟩ = some (.slice (some ⟨A.rb, 0, none⟩) n n) ∧ w'.cell? ⟨A.k, 0, none⟩ = some (.slice (some ⟨A.rk, 0, none⟩) n n))
        (go_keep)
        (fail)
      clear c0 c1 c2 c3 cb ck b0 b1 b2 b3 bf k0 kf n1 n2 n3 n4 n5 n6 n7
      obtain ⟨hm4, ht4⟩ := HM3.out.note j x
      have HM4 := hid (hm4.stays ((Below.refl _ _).drew))
      have HT4 := hid (HT3.out.trans (ht4.trans (STurn.of_below v ((Below.refl _ _).drew))))
      have hx4 := (((Below.refl _ _).drew).block X (Nat.lt_of_lt_of_le (heap_lt HX3.out) ht4.size)).trans ((ht4.block X (heap_lt HX3.out) HXT.out.1 HXT.out.2).trans HX3.out)
      clear hm4 ht4
      rename_i hh
      clear hh
      generalize World.drew _ = w4 at HM4 HT4 hx4 ⊢
      obtain ⟨c0, c1, c2, c3⟩ := cells_ofW x hx4
      have hB4 : B ≤ w4.heap.size := by have := HM4.out.rb.lt _ rfl; omega
      go_wp2_with fail
      refine (push_any A.o B v q L x hq' w4 hB4 HM4.out.qm HS.out.hp).mono ?_
      intro e w5 hp
      have he := hp.1
      have HP := hid hp
      clear hp
      subst he
      go_wp2_with fail
      go_end0
      rw [HJ.out] at HM4
      exact relaxed_yes HS.out hx HB.out HM4.out HT4.out HP.out
end Go.Proofs.Ytokpdjdpeaccbaa
