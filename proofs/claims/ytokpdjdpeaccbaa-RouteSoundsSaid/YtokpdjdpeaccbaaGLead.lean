/-
  The walk of lead: the edges behind a way are relaxed.
-/
import Derived.Test.YtokpdjdpeaccbaaGRelax
namespace Go.Proofs.Ytokpdjdpeaccbaa
open Go.RowKit

/-- The edges of a node in memory, below Bf. -/
def EA (Bf : Nat) (G : Gr) (u : Nat) (ao : Option Addr) (w : World) : Prop := ∀ t, t < (outs G u).length → ∃ b off : Nat, ao = some ⟨b, off, none⟩ ∧ b < Bf ∧
    w.cell? ⟨b, off + t * 3, none⟩ = some (.int .i64 ((G.f ((outs G u).getD t 0) : Nat) : Int)) ∧ w.cell? ⟨b, off + t * 3 + 1, none⟩ = some (.int .i64 ((G.t ((outs G u).getD t 0) : Nat) : Int)) ∧ w.cell? ⟨b, off + t * 3 + 2, none⟩ = some (.int .i64 ((G.c ((outs G u).getD t 0) : Nat) : Int))
/-- The edges of each node. -/
structure FM (Bf n : Nat) (G : Gr) (F : Nat) (w : World) : Prop where
  lt : F < Bf
  row : ∀ u, u < n → ∃ ao c, w.cell? ⟨F, u, none⟩ = some (.slice ao (outs G u).length c) ∧ EA Bf G u ao w
/-- What lies low lies as it lay. -/
def Low (Bf : Nat) (w w' : World) : Prop := ∀ k, k < Bf → w'.heap[k]? = w.heap[k]?
theorem EA.stays {Bf u : Nat} {G : Gr} {ao : Option Addr} {w w' : World} (h : EA Bf G u ao w) (k : Low Bf w w') : EA Bf G u ao w' := fun t ht => by
  obtain ⟨b, off, e, hb, c0, c1, c2⟩ := h t ht
  exact ⟨b, off, e, hb, (World.cell?_of_block (a := ⟨b, off + t * 3, none⟩) (k b hb)).trans c0, (World.cell?_of_block (a := ⟨b, off + t * 3 + 1, none⟩) (k b hb)).trans c1, (World.cell?_of_block (a := ⟨b, off + t * 3 + 2, none⟩) (k b hb)).trans c2⟩
theorem FM.stays {Bf n F : Nat} {G : Gr} {w w' : World} (h : FM Bf n G F w) (k : Low Bf w w') : FM Bf n G F w' where
  lt := h.lt
  row u hu := by
    obtain ⟨ao, c, h1, h2⟩ := h.row u hu
    exact ⟨ao, c, (World.cell?_of_block (a := ⟨F, u, none⟩) (k F h.lt)).trans h1, h2.stays k⟩
theorem Low.trans {Bf : Nat} {a b c : World} (h : Low Bf a b) (k : Low Bf b c) : Low Bf a c := fun i hi => (k i hi).trans (h i hi)
theorem Low.of_below {Bf : Nat} {w w' : World} (h : Below w.heap.size w w') (hl : Bf ≤ w.heap.size) : Low Bf w w' := fun k hk => h.block k (by omega)
theorem STurn.low {B Bf : Nat} {A : Ad} {n : Nat} {best : Nat → Wy} {known done : Nat → Bool} {v v' : Value} {q : Nat} {L : Nat → Wy} {w w' : World} (t : STurn A.T v v' w w') (hM : SM B A n best known done v q L w) (hB : Bf ≤ B) (ho : Bf ≤ A.o) : Low Bf w w' := fun k hk => by
  have h1 : B ≤ A.rb ∧ A.rb < w.heap.size := hM.rb.lt _ rfl
  have h2 : B ≤ A.rk ∧ A.rk < w.heap.size := hM.rk.lt _ rfl
  have h3 : B ≤ A.rd ∧ A.rd < w.heap.size := hM.rd.lt _ rfl
  refine t.block k (by omega) (fun hT => ?_) (fun e => ?_)
  · rcases hT with h | h | h | h <;> omega
  · have := (hM.qm.row.lt _ e).1; omega
/-- What lead leaves. -/
def Led (B : Nat) (A : Ad) (n : Nat) (done : Nat → Bool) (C : Wy → Prop) (v : Value) (q m : Nat) (w : World) (e : Ending) (w' : World) : Prop :=
  e = .returned (.tuple #[]) ∧ ∃ best' known' v' q' L', SM B A n best' known' done v' q' L' w' ∧ SI n C best' known' done q' L' ∧ STurn A.T v v' w w' ∧ q' ≤ q + m
theorem getD_outs {G : Gr} {u t : Nat} (h : t < (outs G u).length) : (outs G u).getD t 0 < G.m ∧ G.f ((outs G u).getD t 0) = u := by
  have : (outs G u).getD t 0 ∈ outs G u := by rw [List.getD_eq_getElem?_getD, List.getElem?_eq_getElem h]; simp
  exact mem_outs.1 this
theorem take_outs {G : Gr} {x : Wy} {t : Nat} (h : t < (outs G x.nd).length) (c : Wy) : c ∈ ((outs G x.nd).take (t + 1)).map (x.by G) ↔ (c ∈ ((outs G x.nd).take t).map (x.by G) ∨ c = x.by G ((outs G x.nd).getD t 0)) := by
  rw [List.take_succ_eq_append_getElem h, List.map_append, List.mem_append, List.getD_eq_getElem?_getD, List.getElem?_eq_getElem h]
  simp
set_option maxRecDepth 100000 in
set_option maxHeartbeats 6400000 in
theorem lead_any (B Bf : Nat) (A : Ad) (n F fc : Nat) (G : Gr) (best : Nat → Wy) (known done : Nat → Bool) (C : Wy → Prop) (v : Value) (q : Nat) (L : Nat → Wy) (x : Wy) (hx : x.nd < n) (hm : ∀ i, i < G.m → G.t i < n ∧ G.c i ≤ 1000000000) (hco : x.co ≤ 1000000000000000) (hns : x.ns ≤ 1000000000) (hl : (outs G x.nd).length ≤ 10000000) (hq : q ≤ 80000000) (hB : Bf ≤ B) (ho : Bf ≤ A.o)
    (w : World) (hM : SM B A n best known done v q L w) (hS : SI n C best known done q L) (hF : FM Bf n G F w) :
    Calls Try.prog 67 #[.slice (some ⟨F, 0, none⟩) n fc, wv x, relaxV A] w (Led B A n done (fun c => C c ∨ c ∈ (outs G x.nd).map (x.by G)) v q (outs G x.nd).length w) := by
  have hsz : B ≤ A.rb ∧ A.rb < w.heap.size := hM.rb.lt _ rfl
  have hb0 : Below w.heap.size w (w.alloc (.cells #[.int .i64 x.nd, .int .i64 x.co, .int .i64 x.ns, .int .i64 x.nx] 68)) := (Below.refl _ _).alloc (Nat.le_refl _) _
  have HM0 := hid (hM.stays hb0)
  have HF0 := hid (hF.stays (Low.of_below hb0 (by omega)))
  have HX0 := hid (heap_new w (.cells #[.int .i64 x.nd, .int .i64 x.co, .int .i64 x.ns, .int .i64 x.nx] 68))
  have HT0 := hid (STurn.of_below (T := A.T) v hb0)
  obtain ⟨j, hj⟩ : ∃ j, j = x.nd := ⟨_, rfl⟩
  have hjn : j < n := by omega
  obtain ⟨X, hX⟩ : ∃ X, w.heap.size = X := ⟨_, rfl⟩
  have HJ := hid hj
  obtain ⟨l1, l2, l3, l4, l5, l6⟩ := hM.lts
  have HXT : Hid (¬ A.T X ∧ v.ownBlock ≠ some X) := hid ⟨by unfold Ad.T; omega, fun e => by have := (hM.qm.row.lt _ e).2; omega⟩
  have HS := hid hS
  rw [hX] at HX0
  clear hM hS hb0 hj l1 l2 l3 l4 l5 l6 hsz hF
  go_enter Try.func67, Try.ntmps67
  go_upto_region 1 with fail
  clear hX
  generalize w.alloc _ = w1 at HM0 HX0 HT0 HF0 ⊢
  obtain ⟨c0, c1, c2, c3⟩ := cells_ofW x HX0.out
  rw [← HJ.out] at c0
  obtain ⟨m, hmm⟩ : ∃ m, (outs G x.nd).length = m := ⟨_, rfl⟩
  obtain ⟨ao, ec, f0, hrow⟩ := HF0.out.row j hjn
  have HE0 : Hid (EA Bf G x.nd ao w1) := hid (HJ.out ▸ hrow)
  rw [HJ.out, hmm, ← HJ.out] at f0
  have hm1 : m ≤ 10000000 := by omega
  have HMM := hid hmm
  have HI0 : Hid (SI n (fun c => C c ∨ c ∈ ((outs G x.nd).take 0).map (x.by G)) best known done q L) := hid (HS.out.congr (fun c => by simp))
  clear hrow hmm hl HF0
  go_wp2_with fail
  go_loopw [14] (fun iv wr => ∃ (i : Nat) (best : Nat → Wy) (known : Nat → Bool) (v' : Value) (q' : Nat) (L' : Nat → Wy), i ≤ m ∧ iv = .int .i64 i ∧ q' ≤ q + i ∧ Hid (SM B A n best known done v' q' L' wr) ∧ Hid (SI n (fun c => C c ∨ c ∈ ((outs G x.nd).take i).map (x.by G)) best known done q' L') ∧ Hid (STurn A.T v v' w wr ∧ v'.ownBlock ≠ some X) ∧ Hid (wr.heap[X]? = some (.cells #[.int .i64 x.nd, .int .i64 x.co, .int .i64 x.ns, .int .i64 x.nx] 68 (0, 0))) ∧ Hid (EA Bf G x.nd ao wr)) (fun iv _ => m - (intOf iv).toNat)
  case atStart => exact ⟨0, best, known, v, q, L, by omega, rfl, by omega, HM0, HI0, hid ⟨HT0.out, HXT.out.2⟩, HX0, HE0⟩
  case round =>
    clear HM0 HI0 HT0 HX0 HE0 c0 c1 c2 c3 f0 HS
    obtain ⟨i, best, known, v', q', L', him, rfl, hqi, HM, HI, HT, HX, HE⟩ := hrel
    by_cases hlt : i < m
    · obtain ⟨b, off, e, hbl, a0, a1, a2⟩ := HE.out i (by rw [HMM.out]; exact hlt)
      subst e
      obtain ⟨he1, he2⟩ := getD_outs (G := G) (u := x.nd) (t := i) (by rw [HMM.out]; exact hlt)
      obtain ⟨hg1, hg2⟩ := hm _ he1
      have htk := take_outs (G := G) (x := x) (t := i) (by rw [HMM.out]; exact hlt)
      obtain ⟨e, hee⟩ : ∃ e, (outs G x.nd).getD i 0 = e := ⟨_, rfl⟩
      rw [hee] at a0 a1 a2 he1 he2 hg1 hg2 htk
      have HTK := hid htk
      obtain ⟨y, hy⟩ : ∃ y, y = x.by G e := ⟨_, rfl⟩
      rw [← hy] at HTK
      obtain ⟨fv, hfv⟩ : ∃ f, G.f e = f := ⟨_, rfl⟩
      obtain ⟨tv, htv⟩ : ∃ f, G.t e = f := ⟨_, rfl⟩
      obtain ⟨cv, hcv⟩ : ∃ f, G.c e = f := ⟨_, rfl⟩
      rw [hfv] at a0
      rw [htv] at a1 hg1
      rw [hcv] at a2 hg2
      have y1 : y.nd = tv := by rw [hy]; exact htv
      have y2 : y.co = x.co + cv := by rw [hy, ← hcv]; rfl
      have y3 : y.ns = x.ns + 1 := by rw [hy]; rfl
      have y4 : y.nx = (j : Int) := by rw [hy, HJ.out]; rfl
      have HY : Hid (wv y = .agg #[.int .i64 (tv : Int), .int .i64 ((x.co : Int) + (cv : Int)), .int .i64 ((x.ns : Int) + 1), .int .i64 (j : Int)]) := hid (by simp only [wv, y1, y2, y3, y4]; push_cast; rfl)
      have w1 : IntKind.i64.wrap ((x.co : Int) + (cv : Int)) = (x.co : Int) + (cv : Int) := by rw [IntKind.wrap_i64]; omega
      have w2 : IntKind.i64.wrap ((x.ns : Int) + 1) = (x.ns : Int) + 1 := by rw [IntKind.wrap_i64]; omega
      have hyn : y.nd < n := by rw [y1]; exact hg1
      have hq9 : q' ≤ 90000000 := by omega
      clear htk hee hy hfv htv hcv y1 y2 y3 y4 he1 he2 hg1 hg2
      have hBl : B ≤ A.rb ∧ A.rb < wr.heap.size := HM.out.rb.lt _ rfl
      have hba : Below wr.heap.size wr (wr.alloc (.cells #[.int .i64 (fv : Int), .int .i64 (tv : Int), .int .i64 (cv : Int)] 41)) := (Below.refl _ _).alloc (Nat.le_refl _) _
      have HM2 := hid (HM.out.stays hba)
      have HX2 := hid ((hba.block X (heap_lt HX.out)).trans HX.out)
      have HE2 := hid (HE.out.stays (Low.of_below hba (by omega)))
      have HT2 := hid (HT.out.1.trans (STurn.of_below v' hba))
      have HXV := hid HT.out.2
      have HN := hid (heap_new wr (.cells #[.int .i64 (fv : Int), .int .i64 (tv : Int), .int .i64 (cv : Int)] 41))
      clear hba hBl
      go_upto_region 4 with fail
      clear a0 a1 a2 HM HX HE HT
      generalize wr.heap.size = E at HN ⊢
      generalize wr.alloc _ = w4 at HM2 HX2 HE2 HT2 HN ⊢
      obtain ⟨c0, c1, c2, c3⟩ := cells_ofW x HX2.out
      rw [← HJ.out] at c0
      have d1 := cell_of_row w4 E 1 _ _ _ HN.out
      have d2 := cell_of_row w4 E 2 _ _ _ HN.out
      simp only [List.getElem?_toArray, List.getElem?_cons_zero, List.getElem?_cons_succ] at d1 d2
      have hrel := relax_any B A n best known done _ v' q' L' y hyn hq9 w4 HM2.out HI.out
      rw [HY.out] at hrel
      have HREL := hid hrel
      clear hrel
      go_wp2_with fail
      refine HREL.out.mono ?_
      rintro r w5 ⟨rfl, best2, known2, v2, q2, L2, hM5, hS5, hT5, hq5⟩
      have HM5 := hid hM5
      have HI5 : Hid (SI n (fun c => C c ∨ c ∈ ((outs G x.nd).take (i + 1)).map (x.by G)) best2 known2 done q2 L2) := hid (hS5.congr (fun c => by rw [HTK.out c, or_assoc]))
      have HE5 := hid (HE2.out.stays (hT5.low HM2.out hB ho))
      have HX5 := hid ((hT5.block X (heap_lt HX2.out) HXT.out.1 HXV.out).trans HX2.out)
      have HT5 : Hid (STurn A.T v v2 w w5 ∧ v2.ownBlock ≠ some X) := hid ⟨HT2.out.trans hT5, fun e => HXV.out (hT5.own X (heap_lt HX2.out) e)⟩
      clear hM5 hS5 hT5 HREL c0 c1 c2 c3 d1 d2 HM2 HX2 HE2 HT2 HI HTK HY HN
      go_wp2_with fail
      go_roundw
      case rel => exact ⟨i + 1, best2, known2, v2, q2, L2, by omega, by go_num, by omega, HM5, HI5, HT5, HX5, HE5⟩
      case measure => simp [intOf]; omega
    · obtain rfl : i = m := by omega
      have hI : SI n (fun c => C c ∨ c ∈ (outs G x.nd).map (x.by G)) best known done q' L' := HI.out.congr (fun c => by rw [List.take_of_length_le (by rw [HMM.out]; exact Nat.le_refl _)])
      have hfin : Led B A n done (fun c => C c ∨ c ∈ (outs G x.nd).map (x.by G)) v q (outs G x.nd).length w (.returned (.tuple #[])) wr := ⟨rfl, best, known, v', q', L', HM.out, hI, HT.out.1, by rw [HMM.out]; exact hqi⟩
      clear hI
      go_wp2_with fail
      go_end0
      exact hfin
end Go.Proofs.Ytokpdjdpeaccbaa
