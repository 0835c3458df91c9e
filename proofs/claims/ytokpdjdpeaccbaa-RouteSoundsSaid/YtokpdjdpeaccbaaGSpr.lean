/-
  The walk of spread: the edges of each node.
-/
import Derived.Test.YtokpdjdpeaccbaaGFlp2
namespace Go.Proofs.Ytokpdjdpeaccbaa
open Go.RowKit

/-- The edges among the first i that leave u. -/
def outsN (f : Nat → Nat) (i u : Nat) : List Nat := (List.range i).filter fun j => f j == u
theorem outsN_outs (G : Gr) (u : Nat) : outsN G.f G.m u = outs G u := rfl
theorem outsN_yes {f : Nat → Nat} {i u : Nat} (h : f i = u) : outsN f (i + 1) u = outsN f i u ++ [i] := by simp [outsN, List.range_succ, h]
theorem outsN_no {f : Nat → Nat} {i u : Nat} (h : f i ≠ u) : outsN f (i + 1) u = outsN f i u := by simp [outsN, List.range_succ, h]
theorem outsN_len (f : Nat → Nat) (i u : Nat) : (outsN f i u).length ≤ i := by
  have := List.length_filter_le (fun j => f j == u) (List.range i)
  simpa [outsN] using this
/-- The lists of edges while they grow. -/
structure Sp (B F n : Nat) (f : Nat → Nat) (E : Nat → Ed) (i : Nat) (V : Nat → Value) (w : World) : Prop where
  fr : w.ownsRow B 22 1 (.slice (some ⟨F, 0, none⟩) n n) n (vals n V)
  rw : ∀ u, u < n → RowE w B (V u) (outsN f i u).length (fun t => E ((outsN f i u).getD t 0))
  ap : ∀ u v, u < n → v < n → u ≠ v → ∀ g, (V u).ownBlock = some g → (V v).ownBlock ≠ some g
section
variable {B F n i u : Nat} {f : Nat → Nat} {E : Nat → Ed} {V : Nat → Value} {w w' : World}
theorem Sp.stays (h : Sp B F n f E i V w) (k : Below w.heap.size w w') : Sp B F n f E i V w' := ⟨row_stays h.fr k, fun u hu => row_stays (h.rw u hu) k, h.ap⟩
theorem Sp.at_ (h : Sp B F n f E i V w) (hu : u < n) {v : Value} (hv : V u = v) : w.cell? ⟨F, u, none⟩ = some v := (h.fr.cellAt u (by omega)).trans (by rw [vals_get _ hu, hv])
/-- The edge at hand. -/
structure SpX (X u : Nat) (x : Ed) (w : World) : Prop where
  b : w.heap[X]? = some (.cells #[.int .i64 (u : Int), .int .i64 x.t, .int .i64 x.c] 41 (0, 0))
def SX (X u : Nat) (x : Ed) (w : World) : Prop := w.cell? ⟨X, 0, none⟩ = some (.int .i64 (u : Int)) ∧ w.cell? ⟨X, 1, none⟩ = some (.int .i64 x.t) ∧ w.cell? ⟨X, 2, none⟩ = some (.int .i64 x.c)
variable {X : Nat} {x : Ed}
theorem SpX.stays (h : SpX X u x w) (k : Below w.heap.size w w') : SpX X u x w' := ⟨(k.block _ (heap_lt h.b)).trans h.b⟩
theorem SpX.s (h : SpX X u x w) : SX X u x w := ⟨cell_of_row _ _ 0 _ _ _ h.b, cell_of_row _ _ 1 _ _ _ h.b, cell_of_row _ _ 2 _ _ _ h.b⟩
theorem SX.al (h : SX X u x w) {o : Obj} : SX X u x (w.alloc o) := ⟨(World.cell?_alloc_some _ _ _ (by rw [h.1]; rfl)).trans h.1, (World.cell?_alloc_some _ _ _ (by rw [h.2.1]; rfl)).trans h.2.1, (World.cell?_alloc_some _ _ _ (by rw [h.2.2]; rfl)).trans h.2.2⟩
def updV (V : Nat → Value) (j : Nat) (x : Value) : Nat → Value := fun i => if i = j then x else V i
theorem own_form {B' : Nat} {e : TypeId} {size k : Nat} {v : Value} {xs : List Value} (h : w.ownsRow B' e size v k xs) {g : Nat} (hg : v.ownBlock = some g) : ∃ cur, w.heap[g]? = some (.cells cur e (0, 0)) := by
  rcases h.2 with ⟨rfl, _⟩ | ⟨g', cap, cur, rfl, _, hh, _⟩
  · simp [Value.ownBlock] at hg
  · simp [Value.ownBlock] at hg; subst hg; exact ⟨cur, hh⟩
/-- A row whose block is another than the one that turned. -/
theorem row_by {B' : Nat} {e : TypeId} {size k : Nat} {v : Value} {xs : List Value} (h : w.ownsRow B' e size v k xs) (hb : ∀ g, v.ownBlock = some g → w'.heap[g]? = w.heap[g]?) : w'.ownsRow B' e size v k xs := by
  refine ⟨h.1, ?_⟩
  rcases h.2 with hn | ⟨g, cap, cur, rfl, hB, hg, rest⟩
  · exact .inl hn
  · exact .inr ⟨g, cap, cur, rfl, hB, (hb g rfl).trans hg, rest⟩
/-- Behind the append: the list of u stands in nv, the table still has the old one. -/
structure SpC (B F n : Nat) (f : Nat → Nat) (E : Nat → Ed) (i : Nat) (V : Nat → Value) (u X : Nat) (x : Ed) (ov nv : Value) (w0 w : World) : Prop where
  b : SpX X u x w
  cell : w.cell? ⟨F, u, none⟩ = some ov
  frz : w.frozen? ⟨F, u, none⟩ = false
  sp : Sp B F n f E (i + 1) (updV V u nv) (w.setCell ⟨F, u, none⟩ nv)
  bl : Below B w0 (w.setCell ⟨F, u, none⟩ nv)
  ft : ∃ cur, w.heap[F]? = some (.cells cur 22 (0, 0))
theorem SpC.sx {ov nv : Value} {w0 : World} (h : SpC B F n f E i V u X x ov nv w0 w) : SX X u x w := h.b.s
/-- Behind the store. -/
structure SpD (B F n : Nat) (f : Nat → Nat) (E : Nat → Ed) (i : Nat) (V : Nat → Value) (u X : Nat) (x : Ed) (nv : Value) (w0 w : World) : Prop where
  sx : SX X u x w
  sp : Sp B F n f E (i + 1) (updV V u nv) w
  bl : Below B w0 w
theorem SpC.done {ov nv : Value} {w0 : World} (h : SpC B F n f E i V u X x ov nv w0 w) : SpD B F n f E i V u X x nv w0 (w.setCell ⟨F, u, none⟩ nv) := by
  obtain ⟨cur, hc⟩ := h.ft
  have hne : X ≠ F := type_ne h.b.b hc (by decide)
  exact ⟨SpX.s ⟨(Below.heap_setCell _ _ _ X hne).trans h.b.b⟩, h.sp, h.bl⟩
theorem enc_snoc (E : Nat → Ed) (l : List Nat) (i : Nat) : encE (l ++ [i]).length (fun t => E ((l ++ [i]).getD t 0)) = encE l.length (fun t => E (l.getD t 0)) ++ ec (E i) := by
  rw [List.length_append, List.length_cons, List.length_nil, Nat.zero_add, encE_succ]
  congr 1
  · exact encE_congr (fun t ht => by rw [List.getD_eq_getElem?_getD, List.getD_eq_getElem?_getD, List.getElem?_append_left ht])
  · rw [List.getD_eq_getElem?_getD, List.getElem?_append_right (Nat.le_refl _), Nat.sub_self]; rfl
theorem SpC.mk' {k sc g c : Nat} {so : Option Addr} {w0 w2 : World} (hM : Sp B F n f E i V w0) (hX : SpX X u x w0) (hu : u < n) (hV : V u = .slice so k sc) (hk : (outsN f i u).length = k) (hE : E i = ⟨u, x.t, x.c⟩) (hfu : f i = u) (hXV : (Value.slice so k sc).ownBlock ≠ some X) (hB : B ≤ w0.heap.size)
    (hown : w2.ownsRow B 41 3 (.slice (some ⟨g, 0, none⟩) (k + 1) c) (k + 1) (encE k (fun t => E ((outsN f i u).getD t 0)) ++ [.int .i64 (u : Int), .int .i64 x.t, .int .i64 x.c]))
    (hgrow : (w0.alloc (.cells #[.int .i64 (u : Int), .int .i64 x.t, .int .i64 x.c] 41)).grownBy w2 (Value.slice so k sc).ownBlock) (hat : (Value.slice so k sc).ownBlock = some g ∨ g = (w0.alloc (.cells #[.int .i64 (u : Int), .int .i64 x.t, .int .i64 x.c] 41)).heap.size) (hlt : g < w2.heap.size) :
    SpC B F n f E i V u X x (.slice so k sc) (.slice (some ⟨g, 0, none⟩) (k + 1) c) w0 w2 := by
  have hba : Below w0.heap.size w0 (w0.alloc (.cells #[.int .i64 (u : Int), .int .i64 x.t, .int .i64 x.c] 41)) := (Below.refl _ _).alloc (Nat.le_refl _) _
  have hM1 := hM.stays hba
  have hX1 := hX.stays hba
  have hz : (w0.alloc (.cells #[.int .i64 (u : Int), .int .i64 x.t, .int .i64 x.c] 41)).heap.size = w0.heap.size + 1 := by simp
  generalize w0.alloc (.cells #[.int .i64 (u : Int), .int .i64 x.t, .int .i64 x.c] 41) = w1 at *
  obtain ⟨cF, hF⟩ := own_form hM1.fr (g := F) rfl
  have hru := hM1.rw u hu
  have hrow0 := hM.rw u hu
  rw [hV, hk] at hru
  rw [hV] at hrow0
  have hFo : (Value.slice so k sc).ownBlock ≠ some F := fun e => by
    obtain ⟨cc, hcc⟩ := own_form hru e
    exact type_ne hcc hF (by decide) rfl
  have hF2 : w2.heap[F]? = w1.heap[F]? := hgrow.block F (heap_lt hF) (fun e => hFo e.symm)
  have hfr2 := row_by hM1.fr (w' := w2) (fun g' e => by simp [Value.ownBlock] at e; subst e; exact hF2)
  have hgF : g ≠ F := by
    obtain ⟨cc, hcc⟩ := own_form hown (g := g) rfl
    exact type_ne hcc (hF2.trans hF) (by decide)
  have hoth : ∀ v, v < n → v ≠ u → ∀ g', (V v).ownBlock = some g' → w2.heap[g']? = w1.heap[g']? ∧ g' ≠ F ∧ g' ≠ g := fun v hv hne g' e => by
    have hlt' := ((hM.rw v hv).lt g' e).2
    have hap := hM.ap v u hv hu hne g' e
    rw [hV] at hap
    obtain ⟨cc, hcc⟩ := own_form (hM1.rw v hv) e
    refine ⟨hgrow.block g' (by omega) (fun h => hap h.symm), type_ne hcc hF (by decide), fun e' => ?_⟩
    subst e'
    rcases hat with h | h
    · exact hap h
    · omega
  refine ⟨⟨(hgrow.block X (heap_lt hX1.b) (fun e => hXV e.symm)).trans hX1.b⟩, (hfr2.cellAt u (by omega)).trans (by rw [vals_get _ hu, hV]), hfr2.frozenAt u, ⟨?_, fun v hv => ?_, fun a b ha hb hne g' e => ?_⟩, ?_, ⟨cF, hF2.trans hF⟩⟩
  · have := (hfr2.stored u (.slice (some ⟨g, 0, none⟩) (k + 1) c)).1
    rw [vals_set] at this
    exact this
  · by_cases e : v = u
    · subst e
      have h1 : updV V v (.slice (some ⟨g, 0, none⟩) (k + 1) c) v = .slice (some ⟨g, 0, none⟩) (k + 1) c := by simp [updV]
      rw [h1, outsN_yes hfu]
      show World.ownsRow _ B _ 3 _ _ (encE (outsN f i v ++ [i]).length _)
      rw [enc_snoc, List.length_append, List.length_cons, List.length_nil, Nat.zero_add, hk]
      refine row_other ?_ (by simpa [Value.ownBlock] using hgF) _
      have h2 : ec (E i) = [.int .i64 (v : Int), .int .i64 x.t, .int .i64 x.c] := by rw [hE]; rfl
      rw [h2]
      exact hown
    · have h1 : updV V u (.slice (some ⟨g, 0, none⟩) (k + 1) c) v = V v := by simp [updV, e]
      rw [h1, outsN_no (fun h => e (h.symm.trans hfu))]
      refine row_by (hM1.rw v hv) (fun g' hg' => ?_)
      obtain ⟨h2, h3, _⟩ := hoth v hv e g' hg'
      exact (Below.heap_setCell _ _ _ g' h3).trans h2
  · by_cases ea : a = u
    · subst ea
      have hb' : b ≠ a := Ne.symm hne
      simp only [updV, if_true, if_neg hb'] at e ⊢
      simp [Value.ownBlock] at e
      subst e
      intro h
      exact (hoth b hb hb' g h).2.2 rfl
    · by_cases eb : b = u
      · subst eb
        simp only [updV, if_true, if_neg ea] at e ⊢
        intro h
        simp [Value.ownBlock] at h
        subst h
        exact (hoth a ha ea g e).2.2 rfl
      · simp only [updV, if_neg ea, if_neg eb] at e ⊢
        exact hM.ap a b ha hb hne g' e
  · have hFB := (hM.fr.lt F rfl).1
    exact ((hba.mono hB).grown hgrow (by omega) (fun i hi => (hru.lt i hi).1)).setCell (p := ⟨F, u, none⟩) hFB _
end
def sprOps : Array Oper := #[
  { dst := some 50, op := Op.move (Operand.tmp 8), type := 63, pos := "route.go:91", after := #[], guard := none },
  { dst := some 51, op := Op.fieldAddr 41 (Operand.tmp 12) 0, type := 0, pos := "route.go:91", after := #[], guard := none },
  { dst := some 52, op := Op.load 3 (Operand.tmp 51), type := 3, pos := "route.go:91", after := #[{ on := 1, ground := Ground.data }], guard := none },
  { dst := some 53, op := Op.move (Operand.tmp 8), type := 63, pos := "route.go:91", after := #[], guard := none },
  { dst := some 54, op := Op.fieldAddr 41 (Operand.tmp 12) 0, type := 0, pos := "route.go:91", after := #[], guard := none },
  { dst := some 55, op := Op.load 3 (Operand.tmp 54), type := 3, pos := "route.go:91", after := #[{ on := 4, ground := Ground.data }], guard := none },
  { dst := some 56, op := Op.indexAddr 63 (Operand.tmp 53) (Operand.tmp 55), type := 0, pos := "route.go:91", after := #[{ on := 3, ground := Ground.data }, { on := 5, ground := Ground.data }], guard := none },
  { dst := some 57, op := Op.load 22 (Operand.tmp 56), type := 22, pos := "route.go:91", after := #[{ on := 6, ground := Ground.data }], guard := none },
  { dst := some 58, op := Op.load 41 (Operand.tmp 12), type := 41, pos := "route.go:91", after := #[], guard := none },
  { dst := some 59, op := Op.buildSlice 22 1 #[(0, Operand.tmp 58)], type := 22, pos := "route.go:91", after := #[{ on := 8, ground := Ground.data }], guard := none },
  { dst := some 60, op := Op.call { callee := Callee.builtin Builtin.append, args := #[Operand.tmp 57, Operand.tmp 59], argTypes := #[22, 22] }, type := 22, pos := "route.go:91", after := #[{ on := 7, ground := Ground.data }, { on := 9, ground := Ground.data }], guard := none },
  { dst := some 61, op := Op.indexAddr 63 (Operand.tmp 50) (Operand.tmp 52), type := 0, pos := "route.go:91", after := #[{ on := 0, ground := Ground.data }, { on := 2, ground := Ground.data }, { on := 0, ground := Ground.phase }, { on := 1, ground := Ground.phase }, { on := 2, ground := Ground.phase }, { on := 3, ground := Ground.phase }, { on := 4, ground := Ground.phase }, { on := 5, ground := Ground.phase }, { on := 6, ground := Ground.phase }, { on := 7, ground := Ground.phase }, { on := 8, ground := Ground.phase }, { on := 9, ground := Ground.phase }, { on := 10, ground := Ground.phase }], guard := none },
  { dst := none, op := Op.store 22 (Operand.tmp 61) (Operand.tmp 60), type := 0, pos := "route.go:91", after := #[{ on := 11, ground := Ground.data }, { on := 10, ground := Ground.data }, { on := 10, ground := Ground.chain }, { on := 0, ground := Ground.phase }, { on := 1, ground := Ground.phase }, { on := 2, ground := Ground.phase }, { on := 3, ground := Ground.phase }, { on := 4, ground := Ground.phase }, { on := 5, ground := Ground.phase }, { on := 6, ground := Ground.phase }, { on := 7, ground := Ground.phase }, { on := 8, ground := Ground.phase }, { on := 9, ground := Ground.phase }, { on := 10, ground := Ground.phase }], guard := none }]
set_option maxRecDepth 100000 in
set_option maxHeartbeats 6400000 in
theorem spr_add (B F n i u X k sc : Nat) (so : Option Addr) (f : Nat → Nat) (E : Nat → Ed) (V : Nat → Value) (x : Ed) (w0 : World) (hM0 : Sp B F n f E i V w0) (hX0 : SpX X u x w0) (hu : u < n) (hV : V u = .slice so k sc) (hk : (outsN f i u).length = k) (hw0 : E i = ⟨u, x.t, x.c⟩) (hfu : f i = u) (hXV : (Value.slice so k sc).ownBlock ≠ some X) (hB : B ≤ w0.heap.size) (hki : k ≤ 1000000) (r0 r1 r2 r3 r4 r5 r6 r7 r9 r10 r11 r13 r14 r15 r16 r17 r18 r19 r20 r21 r22 r23 r24 r25 r26 r27 r28 r29 r30 r31 r32 r33 r34 r35 r36 r37 r38 r39 r40 r41 r42 r43 r44 r45 r46 r47 r48 r49 r50 r51 r52 r53 r54 r55 r56 r57 r58 r59 r60 r61 r62 r63 : Value) (Q : Exit → Act → World → Prop)
    (hQ : ∀ (wr : World) (g c : Nat), SpD B F n f E i V u X x (.slice (some ⟨g, 0, none⟩) (k + 1) c) w0.drew wr → Q .normal { tmps := #[r0, r1, r2, r3, r4, r5, r6, r7, .slice (some ⟨F, 0, none⟩) n n, r9, r10, r11, .pointer (some ⟨X, 0, none⟩), r13, r14, r15, r16, r17, r18, r19, r20, r21, r22, r23, r24, r25, r26, r27, r28, r29, r30, r31, r32, r33, r34, r35, r36, r37, r38, r39, r40, r41, r42, r43, r44, r45, r46, r47, r48, r49, .slice (some ⟨F, 0, none⟩) n n, .pointer (some ⟨X, 0, none⟩), .int .i64 (u : Int), .slice (some ⟨F, 0, none⟩) n n, .pointer (some ⟨X, 0, none⟩), .int .i64 (u : Int), .pointer (some ⟨F, u, none⟩), .slice so k sc, .agg #[.int .i64 (u : Int), .int .i64 x.t, .int .i64 x.c], .slice (some ⟨w0.heap.size, 0, none⟩) 1 1, .slice (some ⟨g, 0, none⟩) (k + 1) c, .pointer (some ⟨F, u, none⟩), r62, r63], defers := [] } wr) :
    (Code.region 16 sprOps true).wp Try.prog Q { tmps := #[r0, r1, r2, r3, r4, r5, r6, r7, .slice (some ⟨F, 0, none⟩) n n, r9, r10, r11, .pointer (some ⟨X, 0, none⟩), r13, r14, r15, r16, r17, r18, r19, r20, r21, r22, r23, r24, r25, r26, r27, r28, r29, r30, r31, r32, r33, r34, r35, r36, r37, r38, r39, r40, r41, r42, r43, r44, r45, r46, r47, r48, r49, r50, r51, r52, r53, r54, r55, r56, r57, r58, r59, r60, r61, r62, r63], defers := [] } w0 := by
  obtain ⟨i0, hi0, hi1, hi2, hi3⟩ := info_parts infoE
  refine wp_region_noPanic ?_
  have hQ' : ∀ (wr : World) (g c : Nat), SpD B F n f E i V u X x (.slice (some ⟨g, 0, none⟩) (k + 1) c) w0.drew wr → NoPanic Q .normal { tmps := #[r0, r1, r2, r3, r4, r5, r6, r7, .slice (some ⟨F, 0, none⟩) n n, r9, r10, r11, .pointer (some ⟨X, 0, none⟩), r13, r14, r15, r16, r17, r18, r19, r20, r21, r22, r23, r24, r25, r26, r27, r28, r29, r30, r31, r32, r33, r34, r35, r36, r37, r38, r39, r40, r41, r42, r43, r44, r45, r46, r47, r48, r49, .slice (some ⟨F, 0, none⟩) n n, .pointer (some ⟨X, 0, none⟩), .int .i64 (u : Int), .slice (some ⟨F, 0, none⟩) n n, .pointer (some ⟨X, 0, none⟩), .int .i64 (u : Int), .pointer (some ⟨F, u, none⟩), .slice so k sc, .agg #[.int .i64 (u : Int), .int .i64 x.t, .int .i64 x.c], .slice (some ⟨w0.drew.heap.size, 0, none⟩) 1 1, .slice (some ⟨g, 0, none⟩) (k + 1) c, .pointer (some ⟨F, u, none⟩), r62, r63], defers := [] } wr := fun wr g c h => NoPanic.normal (hQ wr g c h)
  clear hQ
  generalize hQQ : NoPanic Q = Q at hQ' ⊢
  have hPQ : ∀ (c : List PanicEntry) (a a' : Act) (w : World), Q (.panic c) a w → Q (.panic c) a' w := fun c a a' w h => by rw [← hQQ] at h ⊢; exact h
  clear hQQ
  have hM := hM0.stays ((Below.refl _ _).drew)
  have hX := hX0.stays ((Below.refl _ _).drew)
  have hBB : B ≤ w0.drew.heap.size := hB
  refine wp_region_held_drew (S := fun w' => SX X u x w') (by kernel_rfl) hX.s (fun hS => ?_)
  clear hM0 hX0 hB
  revert hM hX hBB hQ' hS
  generalize w0.drew = w0
  intro hQ hM hX hBB hS
  have n_7_9_10_11_12 : ∀ (wr : World) (g c : Nat), SpD B F n f E i V u X x (.slice (some ⟨g, 0, none⟩) (k + 1) c) w0 wr → wpAnyH Try.prog .any sprOps Q (fun w' => SX X u x w') 0 #[true, true, true, true, true, true, true, true, true, true, true, true, true] { tmps := #[r0, r1, r2, r3, r4, r5, r6, r7, .slice (some ⟨F, 0, none⟩) n n, r9, r10, r11, .pointer (some ⟨X, 0, none⟩), r13, r14, r15, r16, r17, r18, r19, r20, r21, r22, r23, r24, r25, r26, r27, r28, r29, r30, r31, r32, r33, r34, r35, r36, r37, r38, r39, r40, r41, r42, r43, r44, r45, r46, r47, r48, r49, .slice (some ⟨F, 0, none⟩) n n, .pointer (some ⟨X, 0, none⟩), .int .i64 (u : Int), .slice (some ⟨F, 0, none⟩) n n, .pointer (some ⟨X, 0, none⟩), .int .i64 (u : Int), .pointer (some ⟨F, u, none⟩), .slice so k sc, .agg #[.int .i64 (u : Int), .int .i64 x.t, .int .i64 x.c], .slice (some ⟨w0.heap.size, 0, none⟩) 1 1, .slice (some ⟨g, 0, none⟩) (k + 1) c, .pointer (some ⟨F, u, none⟩), r62, r63], defers := [] } wr := by
    intro wr g c HF
    exact wpAnyH_done (by kernel_rfl) (hQ _ _ _ HF) _
  have n_7_9_10_11 : ∀ (wr : World) (g c : Nat), SpC B F n f E i V u X x (.slice so k sc) (.slice (some ⟨g, 0, none⟩) (k + 1) c) w0 wr → wpAnyH Try.prog .any sprOps Q (fun w' => SX X u x w') 1 #[true, true, true, true, true, true, true, true, true, true, true, true, false] { tmps := #[r0, r1, r2, r3, r4, r5, r6, r7, .slice (some ⟨F, 0, none⟩) n n, r9, r10, r11, .pointer (some ⟨X, 0, none⟩), r13, r14, r15, r16, r17, r18, r19, r20, r21, r22, r23, r24, r25, r26, r27, r28, r29, r30, r31, r32, r33, r34, r35, r36, r37, r38, r39, r40, r41, r42, r43, r44, r45, r46, r47, r48, r49, .slice (some ⟨F, 0, none⟩) n n, .pointer (some ⟨X, 0, none⟩), .int .i64 (u : Int), .slice (some ⟨F, 0, none⟩) n n, .pointer (some ⟨X, 0, none⟩), .int .i64 (u : Int), .pointer (some ⟨F, u, none⟩), .slice so k sc, .agg #[.int .i64 (u : Int), .int .i64 x.t, .int .i64 x.c], .slice (some ⟨w0.heap.size, 0, none⟩) 1 1, .slice (some ⟨g, 0, none⟩) (k + 1) c, .pointer (some ⟨F, u, none⟩), r62, r63], defers := [] } wr := by
    intro wr g c HF
    refine wpAnyH_ready (rs := [12]) (by kernel_rfl) (by simp) ?_
    refine (AllReadyH.cons (o := { dst := none, op := Op.store 22 (Operand.tmp 61) (Operand.tmp 60), type := 0, pos := "route.go:91", after := #[{ on := 11, ground := Ground.data }, { on := 10, ground := Ground.data }, { on := 10, ground := Ground.chain }, { on := 0, ground := Ground.phase }, { on := 1, ground := Ground.phase }, { on := 2, ground := Ground.phase }, { on := 3, ground := Ground.phase }, { on := 4, ground := Ground.phase }, { on := 5, ground := Ground.phase }, { on := 6, ground := Ground.phase }, { on := 7, ground := Ground.phase }, { on := 8, ground := Ground.phase }, { on := 9, ground := Ground.phase }, { on := 10, ground := Ground.phase }], guard := none }) rfl (fun K hK => ?_) AllReadyH.nil)
    · skip
      have c0 := HF.cell
      have f0 := HF.frz
      have hs := HF.done
      go_simp
      refine hK.out _ _ (hs.sx) (fun _ => ?_)
      clear hK K
      exact n_7_9_10_11_12 _ (g) (c) (hs)
  have n_7_9_10 : ∀ (wr : World) (g c : Nat), SpC B F n f E i V u X x (.slice so k sc) (.slice (some ⟨g, 0, none⟩) (k + 1) c) w0 wr → wpAnyH Try.prog .any sprOps Q (fun w' => SX X u x w') 2 #[true, true, true, true, true, true, true, true, true, true, true, false, false] { tmps := #[r0, r1, r2, r3, r4, r5, r6, r7, .slice (some ⟨F, 0, none⟩) n n, r9, r10, r11, .pointer (some ⟨X, 0, none⟩), r13, r14, r15, r16, r17, r18, r19, r20, r21, r22, r23, r24, r25, r26, r27, r28, r29, r30, r31, r32, r33, r34, r35, r36, r37, r38, r39, r40, r41, r42, r43, r44, r45, r46, r47, r48, r49, .slice (some ⟨F, 0, none⟩) n n, .pointer (some ⟨X, 0, none⟩), .int .i64 (u : Int), .slice (some ⟨F, 0, none⟩) n n, .pointer (some ⟨X, 0, none⟩), .int .i64 (u : Int), .pointer (some ⟨F, u, none⟩), .slice so k sc, .agg #[.int .i64 (u : Int), .int .i64 x.t, .int .i64 x.c], .slice (some ⟨w0.heap.size, 0, none⟩) 1 1, .slice (some ⟨g, 0, none⟩) (k + 1) c, r61, r62, r63], defers := [] } wr := by
    intro wr g c HF
    refine wpAnyH_ready (rs := [11]) (by kernel_rfl) (by simp) ?_
    refine (AllReadyH.cons (o := { dst := some 61, op := Op.indexAddr 63 (Operand.tmp 50) (Operand.tmp 52), type := 0, pos := "route.go:91", after := #[{ on := 0, ground := Ground.data }, { on := 2, ground := Ground.data }, { on := 0, ground := Ground.phase }, { on := 1, ground := Ground.phase }, { on := 2, ground := Ground.phase }, { on := 3, ground := Ground.phase }, { on := 4, ground := Ground.phase }, { on := 5, ground := Ground.phase }, { on := 6, ground := Ground.phase }, { on := 7, ground := Ground.phase }, { on := 8, ground := Ground.phase }, { on := 9, ground := Ground.phase }, { on := 10, ground := Ground.phase }], guard := none }) rfl (fun K hK => ?_) AllReadyH.nil)
    · skip
      go_simp
      refine hK.out _ _ (HF.sx) (fun _ => ?_)
      clear hK K
      exact n_7_9_10_11 _ (g) (c) (HF)
  have n_7_9 : ∀ (wr : World), w0.alloc (.cells #[.int .i64 (u : Int), .int .i64 x.t, .int .i64 x.c] 41) = wr → wpAnyH Try.prog .any sprOps Q (fun w' => SX X u x w') 3 #[true, true, true, true, true, true, true, true, true, true, false, false, false] { tmps := #[r0, r1, r2, r3, r4, r5, r6, r7, .slice (some ⟨F, 0, none⟩) n n, r9, r10, r11, .pointer (some ⟨X, 0, none⟩), r13, r14, r15, r16, r17, r18, r19, r20, r21, r22, r23, r24, r25, r26, r27, r28, r29, r30, r31, r32, r33, r34, r35, r36, r37, r38, r39, r40, r41, r42, r43, r44, r45, r46, r47, r48, r49, .slice (some ⟨F, 0, none⟩) n n, .pointer (some ⟨X, 0, none⟩), .int .i64 (u : Int), .slice (some ⟨F, 0, none⟩) n n, .pointer (some ⟨X, 0, none⟩), .int .i64 (u : Int), .pointer (some ⟨F, u, none⟩), .slice so k sc, .agg #[.int .i64 (u : Int), .int .i64 x.t, .int .i64 x.c], .slice (some ⟨w0.heap.size, 0, none⟩) 1 1, r60, r61, r62, r63], defers := [] } wr := by
    intro wr  HF
    refine wpAnyH_ready (rs := [10]) (by kernel_rfl) (by simp) ?_
    refine (AllReadyH.cons (o := { dst := some 60, op := Op.call { callee := Callee.builtin Builtin.append, args := #[Operand.tmp 57, Operand.tmp 59], argTypes := #[22, 22] }, type := 22, pos := "route.go:91", after := #[{ on := 7, ground := Ground.data }, { on := 9, ground := Ground.data }], guard := none }) rfl (fun K hK => ?_) AllReadyH.nil)
    · skip
      subst HF
      have hM1 := hM.stays ((Below.refl _ w0).alloc (Nat.le_refl _) (.cells #[.int .i64 (u : Int), .int .i64 x.t, .int .i64 x.c] 41))
      have hr1 := hM1.rw u hu
      rw [hV, hk] at hr1
      have nw := World.news_of_block (heap_new w0 (.cells #[.int .i64 (u : Int), .int .i64 x.t, .int .i64 x.c] 41))
      have hsz : B ≤ (w0.alloc (.cells #[.int .i64 (u : Int), .int .i64 x.t, .int .i64 x.c] 41)).heap.size := by simp; omega
      refine step_append_lies _ rfl _ _ 22 rfl B 41 i0 (.agg #[.int .i64 0, .int .i64 0, .int .i64 0]) 3 24 Try.underlying22 hi0 hi1 hi2 hi3 rfl (by decide) (.slice so k sc) k _ rfl hr1 ⟨w0.heap.size, 0, none⟩ 1 1 [.int .i64 (u : Int), .int .i64 x.t, .int .i64 x.c] rfl rfl nw (by intro z hz; simp at hz; rcases hz with rfl | rfl | rfl <;> rfl) (by omega) (by unfold maxLen; omega) (by omega) hsz _ rfl ?_
      intro g2 c2 w2 hown hgrow hat hlt
      have hap := SpC.mk' hM hX hu hV hk hw0 hfu hXV hBB hown hgrow hat hlt
      refine hK.out _ _ (hap.sx) (fun _ => ?_)
      clear hK K
      simp only [Act.put, List.setIfInBounds_toArray, List.set_cons_zero, List.set_cons_succ]
      exact n_7_9_10 _ (g2) (c2) (hap)
  have n_9 : ∀ (wr : World), w0.alloc (.cells #[.int .i64 (u : Int), .int .i64 x.t, .int .i64 x.c] 41) = wr → wpAnyH Try.prog .any sprOps Q (fun w' => SX X u x w') 4 #[true, true, true, true, true, true, true, false, true, true, false, false, false] { tmps := #[r0, r1, r2, r3, r4, r5, r6, r7, .slice (some ⟨F, 0, none⟩) n n, r9, r10, r11, .pointer (some ⟨X, 0, none⟩), r13, r14, r15, r16, r17, r18, r19, r20, r21, r22, r23, r24, r25, r26, r27, r28, r29, r30, r31, r32, r33, r34, r35, r36, r37, r38, r39, r40, r41, r42, r43, r44, r45, r46, r47, r48, r49, .slice (some ⟨F, 0, none⟩) n n, .pointer (some ⟨X, 0, none⟩), .int .i64 (u : Int), .slice (some ⟨F, 0, none⟩) n n, .pointer (some ⟨X, 0, none⟩), .int .i64 (u : Int), .pointer (some ⟨F, u, none⟩), r57, .agg #[.int .i64 (u : Int), .int .i64 x.t, .int .i64 x.c], .slice (some ⟨w0.heap.size, 0, none⟩) 1 1, r60, r61, r62, r63], defers := [] } wr := by
    intro wr  HF
    refine wpAnyH_ready (rs := [7]) (by kernel_rfl) (by simp) ?_
    refine (AllReadyH.cons (o := { dst := some 57, op := Op.load 22 (Operand.tmp 56), type := 22, pos := "route.go:91", after := #[{ on := 6, ground := Ground.data }], guard := none }) rfl (fun K hK => ?_) AllReadyH.nil)
    · skip
      have c0 : wr.cell? ⟨F, u, none⟩ = some (.slice so k sc) := by rw [← HF]; exact (World.cell?_of_block (a := ⟨F, u, none⟩) (Below.heap_alloc _ _ _ (hM.fr.lt F rfl).2)).trans (hM.at_ hu hV)
      go_simp
      refine hK.out _ _ ((HF ▸ hX.s.al)) (fun _ => ?_)
      clear hK K
      exact n_7_9 _  (HF)
  have n_7 : ∀ (wr : World), w0 = wr → wpAnyH Try.prog .any sprOps Q (fun w' => SX X u x w') 4 #[true, true, true, true, true, true, true, true, true, false, false, false, false] { tmps := #[r0, r1, r2, r3, r4, r5, r6, r7, .slice (some ⟨F, 0, none⟩) n n, r9, r10, r11, .pointer (some ⟨X, 0, none⟩), r13, r14, r15, r16, r17, r18, r19, r20, r21, r22, r23, r24, r25, r26, r27, r28, r29, r30, r31, r32, r33, r34, r35, r36, r37, r38, r39, r40, r41, r42, r43, r44, r45, r46, r47, r48, r49, .slice (some ⟨F, 0, none⟩) n n, .pointer (some ⟨X, 0, none⟩), .int .i64 (u : Int), .slice (some ⟨F, 0, none⟩) n n, .pointer (some ⟨X, 0, none⟩), .int .i64 (u : Int), .pointer (some ⟨F, u, none⟩), .slice so k sc, .agg #[.int .i64 (u : Int), .int .i64 x.t, .int .i64 x.c], r59, r60, r61, r62, r63], defers := [] } wr := by
    intro wr  HF
    refine wpAnyH_ready (rs := [9]) (by kernel_rfl) (by simp) ?_
    refine (AllReadyH.cons (o := { dst := some 59, op := Op.buildSlice 22 1 #[(0, Operand.tmp 58)], type := 22, pos := "route.go:91", after := #[{ on := 8, ground := Ground.data }], guard := none }) rfl (fun K hK => ?_) AllReadyH.nil)
    · skip
      subst HF
      go_simp
      refine hK.out _ _ (hX.s.al) (fun _ => ?_)
      clear hK K
      exact n_7_9 _  (rfl)
  have n_0 : ∀ (wr : World), w0 = wr → wpAnyH Try.prog .any sprOps Q (fun w' => SX X u x w') 5 #[true, true, true, true, true, true, true, false, true, false, false, false, false] { tmps := #[r0, r1, r2, r3, r4, r5, r6, r7, .slice (some ⟨F, 0, none⟩) n n, r9, r10, r11, .pointer (some ⟨X, 0, none⟩), r13, r14, r15, r16, r17, r18, r19, r20, r21, r22, r23, r24, r25, r26, r27, r28, r29, r30, r31, r32, r33, r34, r35, r36, r37, r38, r39, r40, r41, r42, r43, r44, r45, r46, r47, r48, r49, .slice (some ⟨F, 0, none⟩) n n, .pointer (some ⟨X, 0, none⟩), .int .i64 (u : Int), .slice (some ⟨F, 0, none⟩) n n, .pointer (some ⟨X, 0, none⟩), .int .i64 (u : Int), .pointer (some ⟨F, u, none⟩), r57, .agg #[.int .i64 (u : Int), .int .i64 x.t, .int .i64 x.c], r59, r60, r61, r62, r63], defers := [] } wr := by
    intro wr  HF
    refine wpAnyH_ready (rs := [7, 9]) (by kernel_rfl) (by simp) ?_
    refine (AllReadyH.cons (o := { dst := some 57, op := Op.load 22 (Operand.tmp 56), type := 22, pos := "route.go:91", after := #[{ on := 6, ground := Ground.data }], guard := none }) rfl (fun K hK => ?_) (AllReadyH.cons (o := { dst := some 59, op := Op.buildSlice 22 1 #[(0, Operand.tmp 58)], type := 22, pos := "route.go:91", after := #[{ on := 8, ground := Ground.data }], guard := none }) rfl (fun K hK => ?_) AllReadyH.nil))
    · skip
      have c0 : wr.cell? ⟨F, u, none⟩ = some (.slice so k sc) := by rw [← HF]; exact hM.at_ hu hV
      go_simp
      refine hK.out _ _ ((HF ▸ hX.s)) (fun _ => ?_)
      clear hK K
      exact n_7 _  (HF)
    · skip
      subst HF
      go_simp
      refine hK.out _ _ (hX.s.al) (fun _ => ?_)
      clear hK K
      exact n_9 _  (rfl)
  refine wpAnyH_take (i := 0) (oi := { dst := some 50, op := Op.move (Operand.tmp 8), type := 63, pos := "route.go:91", after := #[], guard := none }) (v := .slice (some ⟨F, 0, none⟩) n n) rfl (by kernel_rfl) (by kernel_rfl) (by kernel_rfl) (fun _ _ _ h => hPQ _ _ _ _ h) (Or.inl ⟨by rfl, ?_⟩) hS ?_
  · intro w' hSw; obtain ⟨e0, e1, e2⟩ := hSw; go_simp; try (with_reducible rfl)
  try simp only [Act.put, List.setIfInBounds_toArray, List.set_cons_zero, List.set_cons_succ]
  refine wpAnyH_take (i := 1) (oi := { dst := some 51, op := Op.fieldAddr 41 (Operand.tmp 12) 0, type := 0, pos := "route.go:91", after := #[], guard := none }) (v := .pointer (some ⟨X, 0, none⟩)) rfl (by kernel_rfl) (by kernel_rfl) (by kernel_rfl) (fun _ _ _ h => hPQ _ _ _ _ h) (Or.inl ⟨by rfl, ?_⟩) hS ?_
  · intro w' hSw; obtain ⟨e0, e1, e2⟩ := hSw; go_simp; try (with_reducible rfl)
  try simp only [Act.put, List.setIfInBounds_toArray, List.set_cons_zero, List.set_cons_succ]
  refine wpAnyH_take (i := 2) (oi := { dst := some 52, op := Op.load 3 (Operand.tmp 51), type := 3, pos := "route.go:91", after := #[{ on := 1, ground := Ground.data }], guard := none }) (v := .int .i64 (u : Int)) rfl (by kernel_rfl) (by kernel_rfl) (by kernel_rfl) (fun _ _ _ h => hPQ _ _ _ _ h) (Or.inl ⟨by rfl, ?_⟩) hS ?_
  · intro w' hSw; obtain ⟨e0, e1, e2⟩ := hSw; go_simp; try (with_reducible rfl)
  try simp only [Act.put, List.setIfInBounds_toArray, List.set_cons_zero, List.set_cons_succ]
  refine wpAnyH_take (i := 3) (oi := { dst := some 53, op := Op.move (Operand.tmp 8), type := 63, pos := "route.go:91", after := #[], guard := none }) (v := .slice (some ⟨F, 0, none⟩) n n) rfl (by kernel_rfl) (by kernel_rfl) (by kernel_rfl) (fun _ _ _ h => hPQ _ _ _ _ h) (Or.inl ⟨by rfl, ?_⟩) hS ?_
  · intro w' hSw; obtain ⟨e0, e1, e2⟩ := hSw; go_simp; try (with_reducible rfl)
  try simp only [Act.put, List.setIfInBounds_toArray, List.set_cons_zero, List.set_cons_succ]
  refine wpAnyH_take (i := 4) (oi := { dst := some 54, op := Op.fieldAddr 41 (Operand.tmp 12) 0, type := 0, pos := "route.go:91", after := #[], guard := none }) (v := .pointer (some ⟨X, 0, none⟩)) rfl (by kernel_rfl) (by kernel_rfl) (by kernel_rfl) (fun _ _ _ h => hPQ _ _ _ _ h) (Or.inl ⟨by rfl, ?_⟩) hS ?_
  · intro w' hSw; obtain ⟨e0, e1, e2⟩ := hSw; go_simp; try (with_reducible rfl)
  try simp only [Act.put, List.setIfInBounds_toArray, List.set_cons_zero, List.set_cons_succ]
  refine wpAnyH_take (i := 5) (oi := { dst := some 55, op := Op.load 3 (Operand.tmp 54), type := 3, pos := "route.go:91", after := #[{ on := 4, ground := Ground.data }], guard := none }) (v := .int .i64 (u : Int)) rfl (by kernel_rfl) (by kernel_rfl) (by kernel_rfl) (fun _ _ _ h => hPQ _ _ _ _ h) (Or.inl ⟨by rfl, ?_⟩) hS ?_
  · intro w' hSw; obtain ⟨e0, e1, e2⟩ := hSw; go_simp; try (with_reducible rfl)
  try simp only [Act.put, List.setIfInBounds_toArray, List.set_cons_zero, List.set_cons_succ]
  refine wpAnyH_take (i := 6) (oi := { dst := some 56, op := Op.indexAddr 63 (Operand.tmp 53) (Operand.tmp 55), type := 0, pos := "route.go:91", after := #[{ on := 3, ground := Ground.data }, { on := 5, ground := Ground.data }], guard := none }) (v := .pointer (some ⟨F, u, none⟩)) rfl (by kernel_rfl) (by kernel_rfl) (by kernel_rfl) (fun _ _ _ h => hPQ _ _ _ _ h) (Or.inl ⟨by rfl, ?_⟩) hS ?_
  · intro w' hSw; obtain ⟨e0, e1, e2⟩ := hSw; go_simp; try (with_reducible rfl)
  try simp only [Act.put, List.setIfInBounds_toArray, List.set_cons_zero, List.set_cons_succ]
  refine wpAnyH_take (i := 8) (oi := { dst := some 58, op := Op.load 41 (Operand.tmp 12), type := 41, pos := "route.go:91", after := #[], guard := none }) (v := .agg #[.int .i64 (u : Int), .int .i64 x.t, .int .i64 x.c]) rfl (by kernel_rfl) (by kernel_rfl) (by kernel_rfl) (fun _ _ _ h => hPQ _ _ _ _ h) (Or.inl ⟨by rfl, ?_⟩) hS ?_
  · intro w' hSw; obtain ⟨e0, e1, e2⟩ := hSw; go_simp; try (with_reducible rfl)
  try simp only [Act.put, List.setIfInBounds_toArray, List.set_cons_zero, List.set_cons_succ]
  exact n_0 _ rfl
end Go.Proofs.Ytokpdjdpeaccbaa
