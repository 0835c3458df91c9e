/-
  The walk of a search of ways: what it hands over is a run, and nothing is left at its end.
-/
import Derived.Test.YtokpdjdpeaccbaaGSe1
namespace Go.Proofs.Ytokpdjdpeaccbaa
open Go.RowKit
attribute [local go_sem] run_end

section
variable {B : Nat} {A : Ad} {n : Nat} {best : Nat → Wy} {known done : Nat → Bool} {v : Value} {q : Nat} {L : Nat → Wy} {w w' : World}
/-- The search's own blocks lie high. -/
structure Hi (B0 : Nat) (A : Ad) : Prop where
  o : B0 ≤ A.o
  b : B0 ≤ A.b
  k : B0 ≤ A.k
theorem SM.keepB {Bd : Nat → Prop} (h : SM B A n best known done v q L w) (hi : Hi B A) (k : KeepB Bd w w') (hb : ∀ i, Bd i → i < B) : SM B A n best known done v q L w' := by
  have h1 : B ≤ A.rb ∧ A.rb < w.heap.size := h.rb.lt _ rfl
  have h2 : B ≤ A.rk ∧ A.rk < w.heap.size := h.rk.lt _ rfl
  have h3 : B ≤ A.rd ∧ A.rd < w.heap.size := h.rd.lt _ rfl
  have hk : ∀ i, i < w.heap.size → B ≤ i → w'.heap[i]? = w.heap[i]? := fun i h1 h2 => k.block i h1 (fun hh => by have := hb i hh; omega)
  refine ⟨⟨(hk _ (heap_lt h.qm.box) hi.o).trans h.qm.box, ?_⟩, (hk _ (heap_lt h.cb) hi.b).trans h.cb, (hk _ (heap_lt h.ck) hi.k).trans h.ck, row_same h.rb (hk _ h1.2 h1.1), row_same h.rk (hk _ h2.2 h2.1), row_same h.rd (hk _ h3.2 h3.1), h.ne, h.nd⟩
  obtain ⟨so, sc, rfl⟩ := row_slice h.qm.row
  refine ⟨h.qm.row.1, ?_⟩
  rcases h.qm.row.2 with hn | ⟨g, cap, cur, e, hB, hg, rest⟩
  · exact .inl hn
  · exact .inr ⟨g, cap, cur, e, hB, (hk g (heap_lt hg) hB).trans hg, rest⟩
theorem STurn.below {v' : Value} (t : STurn A.T v v' w w') (hM : SM B A n best known done v q L w) (hi : Hi B A) : Below B w w' := ⟨t.os, t.tape, t.output, t.size, t.low hM (Nat.le_refl _) hi.o⟩
theorem SI.popped {C : Wy → Prop} {done' : Nat → Bool} (h : SI n C best known done (q + 1) L) {L' : Nat → Wy} (hh : Heap Wy.rk q L') (h1 : ∀ y, In q L' y → In (q + 1) L y) (h2 : ∀ i, 0 < i → i < q + 1 → In q L' (L i))
    (hd : ∀ u, u < n → done' u = false → done u = false ∧ u ≠ (L 0).nd) : SI n C best known done' q L' where
  inn := h.inn
  kn := h.kn
  bs := h.bs
  op x hx := h.op x (h1 x hx)
  fr u hu hk hf := by
    obtain ⟨hf', hne⟩ := hd u hu hf
    obtain ⟨i, hi, he⟩ := h.fr u hu hk hf'
    by_cases e : i = 0
    · subst e; exact absurd ((h.bs u hu hk).2.1.symm.trans (congrArg Wy.nd he.symm)) hne
    · rw [← he]; exact h2 i (by omega) hi
  hp := hh
theorem SI.top {C : Wy → Prop} (h : SI n C best known done (q + 1) L) : C (L 0) ∧ ∀ c, C c → done c.nd = false → ¬ lt3 c.rk (L 0).rk := by
  refine ⟨h.op _ ⟨0, by omega, rfl⟩, fun c hc hd => ?_⟩
  have hn := h.inn c hc
  have hk := (h.kn _ hn).2 ⟨c, hc, rfl⟩
  obtain ⟨i, hi, he⟩ := h.fr _ hn hk hd
  have h1 := h.hp.root Wy.rk i hi
  rw [he] at h1
  exact lt3_trans_not h1 ((h.bs _ hn hk).2.2 c hc rfl)
end
/-- How much a way may cost that a search knows. -/
theorem cand_bound {G : Gr} {q0 M n : Nat} {X : Nat → Nat} (hM : ∀ i, i < G.m → G.c i ≤ M ∧ G.t i < n) (hX : ∀ j, j < q0 → X j < n) {pre : List Wy} (h : (ledBy G q0 X).Run pre) :
    ∀ c ∈ (ledBy G q0 X).cand pre, c.co ≤ pre.length * M ∧ c.ns ≤ pre.length + 1 ∧ c.nd < n := by
  induction h with
  | nil =>
    intro c hc
    simp only [Srch.cand, List.flatMap_nil, List.append_nil, ledBy, List.mem_map, List.mem_range] at hc
    obtain ⟨j, hj, rfl⟩ := hc
    exact ⟨by simp [begun], by simp [begun], hX j hj⟩
  | @snoc pre x hr hn ih =>
    intro c hc
    rw [Srch.cand_snoc] at hc
    rw [List.length_append, List.length_cons, List.length_nil, Nat.zero_add, Nat.succ_mul]
    rcases List.mem_append.1 hc with hc | hc
    · have := ih c hc; omega
    · simp only [ledBy, List.mem_map] at hc
      obtain ⟨i, hi, rfl⟩ := hc
      have h1 := ih x hn.1
      have h2 := hM i (mem_outs.1 hi).1
      simp only [Wy.by]
      omega
theorem outs_len (G : Gr) (u : Nat) : (outs G u).length ≤ G.m := by
  have := List.length_filter_le (fun i => G.f i == u) (List.range G.m)
  simpa [outs] using this

/-- What a search of ways finds in memory as it begins, below top. -/
structure Se0 (top Bf n q0 F fc S0 S1 S2 : Nat) (G : Gr) (X : Nat → Nat) (fo : Option Addr) (fcap : Nat) (Bd : Nat → Prop) (w : World) : Prop where
  s0 : w.heap[S0]? = some (.cells #[.int .i64 (n : Int)] 3 (0, 0))
  s1 : w.heap[S1]? = some (.cells #[.slice fo q0 fcap] 61 (0, 0))
  s2 : w.heap[S2]? = some (.cells #[.func (.func 67) #[.slice (some ⟨F, 0, none⟩) n fc] #[]] 94 (0, 0))
  first : ∀ j, j < q0 → ∃ b off : Nat, fo = some ⟨b, off, none⟩ ∧ b < top ∧ ¬ Bd b ∧ w.cell? ⟨b, off + j * 4, none⟩ = some (.int .i64 (X j : Nat)) ∧ w.cell? ⟨b, off + j * 4 + 1, none⟩ = some (.int .i64 0) ∧ w.cell? ⟨b, off + j * 4 + 2, none⟩ = some (.int .i64 1) ∧ w.cell? ⟨b, off + j * 4 + 3, none⟩ = some (.int .i64 (-1))
  fan : FM Bf n G F w
  low : Bf ≤ top
  tp : top ≤ w.heap.size
  l0 : S0 < top ∧ ¬ Bd S0
  l1 : S1 < top ∧ ¬ Bd S1
  l2 : S2 < top ∧ ¬ Bd S2
  bd : ∀ k, Bd k → Bf ≤ k
section
variable {top Bf n q0 F fc S0 S1 S2 : Nat} {G : Gr} {X : Nat → Nat} {fo : Option Addr} {fcap : Nat} {Bd : Nat → Prop} {w w' : World}
theorem Se0.same (h : Se0 top Bf n q0 F fc S0 S1 S2 G X fo fcap Bd w) (hs : w.heap.size ≤ w'.heap.size) (k : ∀ i, i < top → ¬ Bd i → w'.heap[i]? = w.heap[i]?) : Se0 top Bf n q0 F fc S0 S1 S2 G X fo fcap Bd w' where
  s0 := (k _ h.l0.1 h.l0.2).trans h.s0
  s1 := (k _ h.l1.1 h.l1.2).trans h.s1
  s2 := (k _ h.l2.1 h.l2.2).trans h.s2
  first j hj := by
    obtain ⟨b, off, e, hb, hn, c0, c1, c2, c3⟩ := h.first j hj
    have hk := k b hb hn
    exact ⟨b, off, e, hb, hn, (World.cell?_of_block (a := ⟨b, off + j * 4, none⟩) hk).trans c0, (World.cell?_of_block (a := ⟨b, off + j * 4 + 1, none⟩) hk).trans c1, (World.cell?_of_block (a := ⟨b, off + j * 4 + 2, none⟩) hk).trans c2, (World.cell?_of_block (a := ⟨b, off + j * 4 + 3, none⟩) hk).trans c3⟩
  fan := h.fan.stays (fun i hi => k i (Nat.lt_of_lt_of_le hi h.low) (fun hb => by have := h.bd i hb; omega))
  low := h.low
  tp := Nat.le_trans h.tp hs
  l0 := h.l0
  l1 := h.l1
  l2 := h.l2
  bd := h.bd
theorem Se0.keep (h : Se0 top Bf n q0 F fc S0 S1 S2 G X fo fcap Bd w) (k : KeepB Bd w w') : Se0 top Bf n q0 F fc S0 S1 S2 G X fo fcap Bd w' := h.same k.size (fun i hi hn => k.block i (Nat.lt_of_lt_of_le hi h.tp) hn)
theorem Se0.high {B : Nat} (h : Se0 top Bf n q0 F fc S0 S1 S2 G X fo fcap Bd w) (k : Below B w w') (hB : top ≤ B) : Se0 top Bf n q0 F fc S0 S1 S2 G X fo fcap Bd w' := h.same k.size (fun i hi _ => k.block i (Nat.lt_of_lt_of_le hi hB))
end
abbrev encW1 (x : Wy) : Array Value := #[wv x]
set_option maxRecDepth 100000 in
set_option maxHeartbeats 12800000 in
theorem search1_seq (m : Nat) (Bf n q0 F fc S0 S1 S2 : Nat) (G : Gr) (X : Nat → Nat) (fo : Option Addr) (fcap : Nat) (Bd : Nat → Prop) (w0 : World) (h0 : Se0 w0.heap.size Bf n q0 F fc S0 S1 S2 G X fo fcap Bd w0)
    (hn : n ≤ 2000) (hm : ∀ i, i < G.m → G.c i ≤ 1000000000 ∧ G.t i < n) (hgm : G.m ≤ 10000) (hX : ∀ j, j < q0 → X j < n) (hq0 : q0 ≤ 100000) :
    SeqW m Try.prog 76 #[.pointer (some ⟨S0, 0, none⟩), .pointer (some ⟨S1, 0, none⟩), .pointer (some ⟨S2, 0, none⟩)] encW1 Bd (ledBy G q0 X).Run (fun xs => (ledBy G q0 X).Run xs ∧ (ledBy G q0 X).Fin xs) (ledBy G q0 X).Run w0 := by
  intro l J Jx W hW hBd hJ hJx hY hJ0
  refine callsIn_wide.2 ?_
  have hS := h0.keep (KeepB.of_below hW)
  have hWs := hW.size
  have hn' : n ≤ 1000000 := by omega
  have hba : Below W.heap.size W (W.alloc (.cells #[.slice none 0 0] 113)) := (Below.refl _ _).alloc (Nat.le_refl _) _
  obtain ⟨o, ho⟩ : ∃ o, W.heap.size = o := ⟨_, rfl⟩
  have hL0 : L0 n W.heap.size S0 W none none none none none (W.alloc (.cells #[.slice none 0 0] 113)) :=
    ⟨(hba.block _ (heap_lt hS.s0)).trans hS.s0, heap_new _ _, by simp, fun x e => (by cases e), fun x e => (by cases e), fun x e => (by cases e), fun x e => (by cases e), fun x e => (by cases e), fun a b e => (by cases e), hba⟩
  have HS := hid hS
  have HL0 := hid hL0
  have HY := hid hY
  have HJ := hid hJ
  have HBd := hid hBd
  have HJ0 := hid hJ0
  clear hS hL0 hba hY hJ hJx hJ0 hW h0 hBd ho
  go_enter Try.func76, Try.ntmps76
  go_wp2
  refine se_begin n W.heap.size S0 W _ hn' HL0.out _ _ _ _ (fun wr rb rk rd pB pK HF => ?_)
  dsimp only
  have hM0 := HF.sm hn'
  have hHi : Hi W.heap.size ⟨W.heap.size, pB, pK, rb, rk, rd⟩ := ⟨Nat.le_refl _, (HF.hpB _ rfl).2, (HF.hpK _ rfl).2⟩
  have hSI : SI n (fun c => c ∈ ((List.range 0).map fun j => begun (X j))) (fun _ => nilW) (fun _ => false) (fun _ => false) 0 (fun _ => nilW) :=
    ⟨fun c hc => by simp at hc, fun u _ => by simp, fun u _ h => by simp at h, fun x h => by obtain ⟨i, hi, _⟩ := h; omega, fun u _ h => by simp at h, fun i _ hi => by omega⟩
  have HB0 := hid HF.below
  have HS1 := hid (HS.out.keep (KeepB.of_below HF.below))
  have HJ1 := hid (HJ.out _ _ _ HJ0.out (Nat.le_refl _) HF.below)
  obtain ⟨A, hA⟩ : ∃ A : Ad, A = ⟨W.heap.size, pB, pK, rb, rk, rd⟩ := ⟨_, rfl⟩
  rw [← hA] at hM0 hHi
  have HM0 := hid hM0
  have HHI := hid hHi
  have HSI := hid hSI
  have hao : W.heap.size = A.o := by rw [hA]
  have hab : pB = A.b := by rw [hA]
  have hak : pK = A.k := by rw [hA]
  have hard : rd = A.rd := by rw [hA]
  obtain ⟨B, hB⟩ : ∃ B, W.heap.size = B := ⟨_, rfl⟩
  have HBW := hid hB
  rw [hB] at HM0 HHI HB0
  rw [hao, hab, hak, hard]
  clear hM0 hHi hSI HF HS HL0 HJ0 hao hab hak hard hA hB
  have c1 := cell_of_row wr S1 0 _ _ _ HS1.out.s1
  simp only [List.getElem?_toArray, List.getElem?_cons_zero] at c1
  go_wp2_with fail
  go_loopw [22] (fun iv wr => ∃ (i : Nat) (best : Nat → Wy) (known : Nat → Bool) (v : Value) (q : Nat) (L : Nat → Wy), i ≤ q0 ∧ iv = .int .i64 i ∧ q ≤ i ∧ Hid (SM B A n best known (fun _ => false) v q L wr) ∧ Hid (SI n (fun c => c ∈ ((List.range i).map fun j => begun (X j))) best known (fun _ => false) q L) ∧ Hid (Below B W wr) ∧ Hid (Se0 w0.heap.size Bf n q0 F fc S0 S1 S2 G X fo fcap Bd wr) ∧ Hid (J [] wr)) (fun iv _ => q0 - (intOf iv).toNat)
  case atStart => exact ⟨0, _, _, _, 0, _, by omega, rfl, by omega, HM0, HSI, HB0, HS1, HJ1⟩
  case round =>
    clear HM0 HSI HB0 HS1 HJ1 c1
    obtain ⟨i, best, known, v, q, L, hi, rfl, hqi, HM, HI, HB, HSe, HJp⟩ := hrel
    by_cases hlt : i < q0
    · obtain ⟨b, off, e, hbl, hbn, a0, a1, a2, a3⟩ := HSe.out.first i hlt
      subst e
      obtain ⟨x, hx⟩ : ∃ x, X i = x := ⟨_, rfl⟩
      have hxn : x < n := by rw [← hx]; exact hX i hlt
      rw [hx] at a0
      have HX := hid hx
      have hq9 : q ≤ 90000000 := by omega
      have HY1 : Hid (wv (begun x) = .agg #[.int .i64 (x : Int), .int .i64 0, .int .i64 1, .int .i64 (-1)]) := hid rfl
      have hba : Below wr.heap.size wr (wr.alloc (.cells #[.int .i64 (x : Int), .int .i64 0, .int .i64 1, .int .i64 (-1)] 68)) := (Below.refl _ _).alloc (Nat.le_refl _) _
      have hBs : B ≤ wr.heap.size := by have := HB.out.size; have := HBW.out; omega
      have HM2 := hid (HM.out.stays hba)
      have HB2 := hid (HB.out.trans (hba.mono hBs))
      have HSe2 := hid (HSe.out.keep (KeepB.of_below hba))
      have HJ2 := hid (HJ.out _ _ _ HJp.out (by rw [HBW.out]; exact hBs) (by rw [HBW.out]; exact hba.mono hBs))
      have HN := hid (heap_new wr (.cells #[.int .i64 (x : Int), .int .i64 0, .int .i64 1, .int .i64 (-1)] 68))
      have hBs2 : B ≤ (wr.alloc (.cells #[.int .i64 (x : Int), .int .i64 0, .int .i64 1, .int .i64 (-1)] 68)).heap.size := by simp; omega
      clear hba hx
      go_upto_region 6 with fail
      clear a0 a1 a2 a3 HM HB HSe HJp hbl hBs
      generalize wr.heap.size = E at HN ⊢
      generalize wr.alloc _ = w4 at HM2 HB2 HSe2 HJ2 HN hBs2 ⊢
      have d0 := cell_of_row w4 E 0 _ _ _ HN.out
      have d1 := cell_of_row w4 E 1 _ _ _ HN.out
      have d2 := cell_of_row w4 E 2 _ _ _ HN.out
      have d3 := cell_of_row w4 E 3 _ _ _ HN.out
      simp only [List.getElem?_toArray, List.getElem?_cons_zero, List.getElem?_cons_succ] at d0 d1 d2 d3
      have hrel := relax_any B A n best known (fun _ => false) _ v q L (begun x) hxn hq9 w4 HM2.out HI.out
      rw [HY1.out] at hrel
      have HREL := hid hrel
      clear hrel
      go_wp2_with fail
      refine HREL.out.mono ?_
      rintro r w5 ⟨rfl, best2, known2, v2, q2, L2, hM5, hS5, hT5, hq5⟩
      have HM5 := hid hM5
      have HI5 : Hid (SI n (fun c => c ∈ ((List.range (i + 1)).map fun j => begun (X j))) best2 known2 (fun _ => false) q2 L2) := hid (hS5.congr (fun c => by rw [List.range_succ, List.map_append, List.mem_append, List.map_cons, List.map_nil, List.mem_singleton, HX.out]))
      have hbl5 := hT5.below HM2.out HHI.out
      have HB5 := hid (HB2.out.trans hbl5)
      have HSe5 := hid (HSe2.out.high hbl5 (by have := HBW.out; omega))
      have HJ5 := hid (HJ.out _ _ _ HJ2.out (by rw [HBW.out]; exact hBs2) (by rw [HBW.out]; exact hbl5))
      clear hM5 hS5 hT5 hbl5 HREL d0 d1 d2 d3 HM2 HB2 HSe2 HJ2 HI HY1 HN hBs2
      go_wp2_with fail
      go_roundw
      case rel => exact ⟨i + 1, best2, known2, v2, q2, L2, by omega, by go_num, by omega, HM5, HI5, HB5, HSe5, HJ5⟩
      case measure => simp [intOf]; omega
    · obtain rfl : q0 = i := by omega
      have HC : Hid (SI n (fun c => c ∈ (ledBy G q0 X).cand []) best known (fun _ => false) q L) := hid (HI.out.congr (fun c => by simp [Srch.cand, ledBy]))
      have HQ0 : Hid (q ≤ q0 + ([] : List Wy).length * G.m) := hid (by simpa using hqi)
      have HDN : Hid (∀ u, u < n → ((fun _ : Nat => false) u = true ↔ u ∈ ([] : List Wy).map Wy.nd)) := hid (fun u _ => by simp)
      have HR0 : Hid ((ledBy G q0 X).Run []) := hid .nil
      clear HI hlt hqi hi
      go_wp2_with fail
      go_loopg [12] ((n - ([] : List Wy).length) * (G.m + 1) + q) (fun gk _ wr => ∃ (pre : List Wy) (best : Nat → Wy) (known done : Nat → Bool) (v : Value) (q : Nat) (L : Nat → Wy), Hid (gk = (n - pre.length) * (G.m + 1) + q) ∧ Hid (q ≤ q0 + pre.length * G.m) ∧ Hid ((ledBy G q0 X).Run pre) ∧ Hid (∀ u, u < n → (done u = true ↔ u ∈ pre.map Wy.nd)) ∧ Hid (SM B A n best known done v q L wr) ∧ Hid (SI n (fun c => c ∈ (ledBy G q0 X).cand pre) best known done q L) ∧ Hid (Below B W wr ∨ True) ∧ Hid (Se0 w0.heap.size Bf n q0 F fc S0 S1 S2 G X fo fcap Bd wr) ∧ Hid (J pre wr) ∧ Hid (B ≤ wr.heap.size))
      case atStart => exact ⟨[], best, known, _, v, q, L, hid rfl, HQ0, HR0, HDN, HM, HC, hid (.inr trivial), HSe, HJp, hid (by have := HB.out.size; have := HBW.out; omega)⟩
      case round =>
        clear HQ0 HR0 HDN HM HC HSe HJp HB
        obtain ⟨pre, best, known, done, v, q, L, HG, HQ, HR, HD, HM, HC, _, HSe, HJp, HBs⟩ := hrel
        have hcb := cand_bound (G := G) (q0 := q0) (M := 1000000000) (n := n) (X := X) hm hX HR.out
        have hlen : pre.length ≤ n := HR.out.len (fun w hw => (hcb w (HR.out.cand w hw)).2.2)
        have hq9 : q ≤ 70000000 := by
          have h1 := HQ.out
          have h2 : pre.length * G.m ≤ 2000 * 10000 := Nat.mul_le_mul (by omega) hgm
          omega
        have HCB := hid hcb
        clear hcb
        obtain ⟨so, sc, rfl⟩ := row_slice HM.out.qm.row
        have c0 := cell_of_row wr A.o 0 _ _ _ HM.out.qm.box
        simp only [List.getElem?_toArray, List.getElem?_cons_zero] at c0
        by_cases hq0' : q = 0
        · subst hq0'
          have hfin : (ledBy G q0 X).Fin pre := fun c hc => by
            have hn := HC.out.inn c hc
            have hk := (HC.out.kn _ hn).2 ⟨c, hc, rfl⟩
            cases hd : done c.nd
            · obtain ⟨i, hi, _⟩ := HC.out.fr _ hn hk hd; omega
            · exact (HD.out _ hn).1 hd
          have hend : (∃ v, Ending.returned (.tuple #[]) = Ending.returned v) ∧ ((∃ xs, ((ledBy G q0 X).Run xs ∧ (ledBy G q0 X).Fin xs) ∧ J xs wr) ∨ ∃ pre, (ledBy G q0 X).Run pre ∧ Jx pre wr) := ⟨⟨_, rfl⟩, .inl ⟨pre, ⟨HR.out, hfin⟩, HJp.out⟩⟩
          clear hfin
          go_wp2_with fail
          go_end0
          exact hend
        · obtain ⟨q, rfl⟩ : ∃ p, q = p + 1 := ⟨q - 1, by omega⟩
          obtain ⟨g, c, e, _, _⟩ := HM.out.qm.row.form (by omega)
          cases e
          have hq8 : q ≤ 100000000 := by omega
          obtain ⟨x, hx⟩ : ∃ x, L 0 = x := ⟨_, rfl⟩
          have htop := HC.out.top
          rw [hx] at htop
          have hb3 := HCB.out x htop.1
          have hpos : decide (0 < q + 1) = true := by simp
          clear hq0'
          go_wp2_with fail
          refine (pop_any A.o B g sc q L hq8 _ HM.out.qm HC.out.hp).mono ?_
          rintro r w2 ⟨rfl, L2, hq2, ht2, hh2, hi2, hi2'⟩
          rw [hx]
          have HM2 := hid (HM.out.turn ht2 hq2)
          have HT2 := hid ((ht2.s (T := A.T) (.inl rfl)).below HM.out HHI.out)
          have HH := hid hh2
          have HI1 := hid hi2
          have HI2 := hid hi2'
          have HX := hid hx
          have HTOP := hid htop
          have HB3 := hid hb3
          clear hx htop hb3 hq2 ht2 hh2 hi2 hi2' HM c0
          obtain ⟨j, hj⟩ : ∃ j, x.nd = j := ⟨_, rfl⟩
          have hjn : j < n := by rw [← hj]; exact HB3.out.2.2
          have HJX := hid hj
          have hba : Below w2.heap.size w2 (w2.alloc (.cells #[.int .i64 x.nd, .int .i64 x.co, .int .i64 x.ns, .int .i64 x.nx] 68)) := (Below.refl _ _).alloc (Nat.le_refl _) _
          have hB2 : B ≤ w2.heap.size := by have := HT2.out.size; have := HBs.out; omega
          have HM3 := hid (HM2.out.stays hba)
          have HT3 := hid (HT2.out.trans (hba.mono hB2))
          have HN3 := hid (heap_new w2 (.cells #[.int .i64 x.nd, .int .i64 x.co, .int .i64 x.ns, .int .i64 x.nx] 68))
          obtain ⟨E, hE⟩ : ∃ E, w2.heap.size = E := ⟨_, rfl⟩
          rw [hE] at HN3
          have hB2' : B ≤ E := by omega
          clear hba hj HM2 HT2 hB2
          go_upto_region 10 with fail
          clear hE
          generalize w2.alloc _ = w3 at HM3 HT3 HN3 ⊢
          obtain ⟨e0, e1, e2, e3⟩ := cells_ofW x HN3.out
          go_wp2_with fail
          refine (end_any x _).mono ?_
          rw [HJX.out]
          rintro r w4 ⟨rfl, hb4⟩
          have HM4 := hid (HM3.out.stays hb4)
          have HT4 := hid (HT3.out.trans (hb4.mono (by have := HT3.out.size; have := HBs.out; omega)))
          have HN4 := hid ((hb4.block E (heap_lt HN3.out)).trans HN3.out)
          clear HM3 HT3 HN3 e0 e1 e2 e3 hb4
          obtain ⟨e0, e1, e2, e3⟩ := cells_ofW x HN4.out
          obtain ⟨k0, kf⟩ := RowB.cell HM4.out.rd hjn
          cases hdj : done j
          · -- the way is taken up
            rw [hdj] at k0
            have HDJ := hid hdj
            clear hdj
            go_wp2_with fail
            refine (end_any x _).mono ?_
            rw [HJX.out]
            rintro r w5 ⟨rfl, hb5⟩
            have hm5 := HM4.out.stays hb5
            have HT5 := hid (HT4.out.trans (hb5.mono (by have := HT4.out.size; have := HBs.out; omega)))
            have HN5 := hid ((hb5.block E (heap_lt HN4.out)).trans HN4.out)
            clear HM4 HT4 HN4 e0 e1 e2 e3 hb5 k0 kf
            obtain ⟨e0, e1, e2, e3⟩ := cells_ofW x HN5.out
            obtain ⟨k0, kf⟩ := RowB.cell hm5.rd hjn
            obtain ⟨hm6, ht6⟩ := hm5.mark j
            have HM6 := hid hm6
            have hbl6 := ht6.below hm5 HHI.out
            have HT6 := hid (HT5.out.trans hbl6)
            have hEd : A.rd ≠ E := fun e => by
              obtain ⟨cc, hcc⟩ := row_type hm5.rd
              exact type_ne hcc HN5.out (by decide) e
            have HN6 := hid ((Below.heap_setCell w5 ⟨A.rd, j, none⟩ (.bool true) E (Ne.symm hEd)).trans HN5.out)
            have hne : (ledBy G q0 X).Nxt pre x := by
              refine ⟨HTOP.out.1, ?_, fun c hc hf => HTOP.out.2 c hc ?_⟩
              · intro hm
                have := (HD.out j hjn).2 (by rw [← HJX.out]; exact hm)
                rw [HDJ.out] at this
                cases this
              · have hcn := HC.out.inn c hc
                cases hd : done c.nd
                · rfl
                · exact absurd ((HD.out _ hcn).1 hd) hf
            have HR2 := hid (Srch.Run.snoc HR.out hne)
            have hlen2 : (pre ++ [x]).length ≤ n := HR2.out.len (fun w hw => by
              have hcb2 := cand_bound (G := G) (q0 := q0) (M := 1000000000) (n := n) (X := X) hm hX HR2.out
              exact (hcb2 w (HR2.out.cand w hw)).2.2)
            rw [List.length_append, List.length_cons, List.length_nil, Nat.zero_add] at hlen2
            have HI6 : Hid (SI n (fun c => c ∈ (ledBy G q0 X).cand pre) best known (updG done j true) q L2) := hid (HC.out.popped HH.out HI1.out HI2.out (fun u hu hf => by
              rw [HX.out, HJX.out]
              by_cases e : u = j
              · subst e; simp [updG] at hf
              · exact ⟨by simpa [updG, e] using hf, e⟩))
            have HD6 : Hid (∀ u, u < n → (updG done j true u = true ↔ u ∈ (pre ++ [x]).map Wy.nd)) := hid (fun u hu => by
              rw [List.map_append, List.mem_append, List.map_cons, List.map_nil, List.mem_singleton, HJX.out, ← HD.out u hu]
              by_cases e : u = j
              · subst e; simp [updG]
              · simp [updG, e])
            have HJ6 := hid (HJ.out _ _ _ HJp.out (by rw [HBW.out]; exact HBs.out) (by rw [HBW.out]; exact HT6.out))
            have HSe6 := hid (HSe.out.high HT6.out (by have := HBW.out; omega))
            have hB6 : B ≤ (w5.setCell ⟨A.rd, j, none⟩ (.bool true)).heap.size := by have := HT6.out.size; have := HBs.out; omega
            clear hm5 hm6 ht6 hbl6 hne HT5 hEd HT6 HSe HJp HBs
            go_upto_region 12 with (go_at_call 105; refine (end_any x _).mono ?_; rw [HJX.out]; rintro r w5 ⟨rfl, hb5⟩)
            clear HN5 e0 e1 e2 e3 k0 kf
            generalize World.setCell _ _ _ = w6 at HM6 HN6 HJ6 HSe6 hB6 ⊢
            obtain ⟨e0, e1, e2, e3⟩ := cells_ofW x HN6.out
            obtain ⟨fn, tmps, assign, body, hy, hR⟩ := HY.out pre x w6 HJ6.out (by rw [HBW.out]; exact hB6) HR2.out
            have HRD := hid hR
            clear hR
            refine (wpIn_wide (n := m)).1 ?_
            gi_wp2
            refine ⟨(fun h => by cases h), HRD.out.mono ?_⟩
            rintro r w7 (⟨rfl, hJ7, hk7⟩ | ⟨rfl, hJ7, hk7⟩)
            · have hbdB : ∀ k, Bd k → k < B := fun k hk => by have := HBd.out k hk; have := HBW.out; omega
              have HM7 := hid (HM6.out.keepB HHI.out hk7 hbdB)
              have HSe7 := hid (HSe6.out.keep hk7)
              have HN7 := hid ((hk7.block E (heap_lt HN6.out) (fun h => by have := hbdB E h; omega)).trans HN6.out)
              have hB7 : B ≤ w7.heap.size := Nat.le_trans hB6 hk7.size
              have HJ7 := hid hJ7
              have hxo : (outs G x.nd).length ≤ G.m := outs_len G x.nd
              have hgm1 : (outs G x.nd).length ≤ 10000000 := by omega
              have hxc : x.co ≤ 1000000000000000 := by have := HB3.out.1; omega
              have hxs : x.ns ≤ 1000000000 := by have := HB3.out.2.1; omega
              have hled := lead_any B Bf A n F fc G best known (updG done j true) _ _ q L2 x HB3.out.2.2 (fun i hi => ⟨(hm i hi).2, (hm i hi).1⟩) hxc hxs hgm1 (by omega) (by have := HSe7.out.low; have := HBW.out; omega) (by have := HSe7.out.low; have := HBW.out; have := HHI.out.o; omega) w7 HM7.out HI6.out HSe7.out.fan
              have HLED := hid hled
              have hfb : Bf ≤ B := by have := HSe7.out.low; have := HBW.out; omega
              clear hled hk7 hJ7 e0 e1 e2 e3 HM6 HSe6 HN6 HJ6 hB6 hy
              obtain ⟨e0, e1, e2, e3⟩ := cells_ofW x HN7.out
              have c2 := cell_of_row w7 S2 0 _ _ _ HSe7.out.s2
              simp only [List.getElem?_toArray, List.getElem?_cons_zero] at c2
              gi_wp2
              go_wp2_with fail
              refine HLED.out.mono ?_
              rintro r w8 ⟨rfl, best2, known2, v2, q2, L3, hM8, hS8, hT8, hq8⟩
              have hbl8 := hT8.below HM7.out HHI.out
              have HM8 := hid hM8
              have HI8 : Hid (SI n (fun c => c ∈ (ledBy G q0 X).cand (pre ++ [x])) best2 known2 (updG done j true) q2 L3) := hid (hS8.congr (fun c => by rw [Srch.cand_snoc, List.mem_append]; rfl))
              have HSe8 := hid (HSe7.out.high hbl8 (by have := HBW.out; omega))
              have HJ8 := hid (HJ.out _ _ _ HJ7.out (by rw [HBW.out]; exact hB7) (by rw [HBW.out]; exact hbl8))
              have HB8 : Hid (B ≤ w8.heap.size) := hid (Nat.le_trans hB7 hbl8.size)
              have HQ8 : Hid (q2 ≤ q0 + (pre ++ [x]).length * G.m) := hid (by
                have := HQ.out
                rw [List.length_append, List.length_cons, List.length_nil, Nat.zero_add, Nat.succ_mul]
                omega)
              have HG8 : Hid ((n - (pre ++ [x]).length) * (G.m + 1) + q2 < gk) := hid (by
                have h1 := HG.out
                have h2 : (n - pre.length) * (G.m + 1) = (n - (pre.length + 1)) * (G.m + 1) + (G.m + 1) := by
                  rw [← Nat.succ_mul]
                  congr 1
                  omega
                rw [List.length_append, List.length_cons, List.length_nil, Nat.zero_add]
                omega)
              clear hM8 hS8 hT8 hbl8 e0 e1 e2 e3 c2 HM7 HSe7 HN7 HJ7 HLED HI6
              go_wp2_with fail
              go_roundg ((n - (pre ++ [x]).length) * (G.m + 1) + q2)
              case measure => exact HG8.out
              case rel => exact ⟨pre ++ [x], best2, known2, _, v2, q2, L3, hid rfl, HQ8, HR2, HD6, HM8, HI8, hid (.inr trivial), HSe8, HJ8, HB8⟩
            · have hend : (∃ v, Ending.returned (.tuple #[]) = Ending.returned v) ∧ ((∃ xs, ((ledBy G q0 X).Run xs ∧ (ledBy G q0 X).Fin xs) ∧ J xs w7) ∨ ∃ pre, (ledBy G q0 X).Run pre ∧ Jx pre w7) := ⟨⟨_, rfl⟩, .inr ⟨_, HR2.out, hJ7⟩⟩
              clear hJ7 hk7 hy
              gi_wp2
              go_wp2_with fail
              refine bodyPost_ret (results_none rfl _ _ _) rfl ?_
              exact hend
          · rw [hdj] at k0
            have HDJ := hid hdj
            clear hdj
            have HI5 : Hid (SI n (fun c => c ∈ (ledBy G q0 X).cand pre) best known done q L2) := hid (HC.out.popped HH.out HI1.out HI2.out (fun u hu hf => ⟨hf, fun e => by
              rw [HX.out, HJX.out] at e
              rw [e, HDJ.out] at hf
              cases hf⟩))
            have HQ5 : Hid (q ≤ q0 + pre.length * G.m) := hid (by have := HQ.out; omega)
            have HJ5 := hid (HJ.out _ _ _ HJp.out (by rw [HBW.out]; exact HBs.out) (by rw [HBW.out]; exact HT4.out))
            have HSe5 := hid (HSe.out.high HT4.out (by have := HBW.out; omega))
            have HB5 : Hid (B ≤ w4.heap.size) := hid (by have := HT4.out.size; have := HBs.out; omega)
            go_wp2_with fail
            go_roundg (gk - 1)
            case measure => have := HG.out; omega
            case rel => exact ⟨pre, best, known, done, _, q, L2, hid (by have := HG.out; omega), HQ5, HR, HD, HM4, HI5, hid (.inr trivial), HSe5, HJ5, HB5⟩
end Go.Proofs.Ytokpdjdpeaccbaa
