/-
  The span that is dropped: the walk of Drop of the program.
-/
import Derived.Test.YtpohhcmkkjcelaaSDel
namespace Go.Proofs.Ytpohhcmkkjcelaa
open Go.RowKit

theorem kd_le {k u : Int} (h : Kd k u) : 0 ≤ k ∧ k ≤ 1 := by unfold Kd at h; omega
/-- What Drop answers. -/
inductive DropIs (W H : Int) (n : Nat) (Z : Nat → Int) (m : Nat) (S : Nat → Sp) (t : Int) : List Sp → Int → Int → Prop where
  | list (e : Int) : e ≠ 0 → LErr W H n Z m S e → DropIs W H n Z m S t [] 0 e
  | none : LErr W H n Z m S 0 → (∀ j, j < m → hdP t (S j) = false) → DropIs W H n Z m S t [] 0 2
  | ok (i p q : Nat) : LErr W H n Z m S 0 → i < m → hdP t (S i) = true → (∀ j, j < i → hdP t (S j) = false) → (S i).a = p → (S i).b = q →
      DropIs W H n Z m S t (rng S 0 i ++ rng S (i + 1) (m - (i + 1))) (IntKind.i64.wrap ((prc (S i).k (cnt (stp W.toNat p q) p q)).tdiv 4)) 0
theorem DropIs.ex (W H : Int) (n : Nat) (Z : Nat → Int) (m : Nat) (S : Nat → Sp) (t : Int) : ∃ L g e, DropIs W H n Z m S t L g e := by
  have first : ∀ q, (∀ j, j < q → hdP t (S j) = false) ∨ ∃ i, i < q ∧ hdP t (S i) = true ∧ ∀ j, j < i → hdP t (S j) = false := by
    intro q
    induction q with
    | zero => exact .inl fun j hj => absurd hj (Nat.not_lt_zero j)
    | succ q ih =>
      rcases ih with h | ⟨i, h1, h2, h3⟩
      · cases hq : hdP t (S q)
        · refine .inl fun j hj => ?_
          by_cases h' : j < q
          · exact h j h'
          · obtain rfl : j = q := by omega
            exact hq
        · exact .inr ⟨q, Nat.lt_succ_self _, hq, h⟩
      · exact .inr ⟨i, by omega, h2, h3⟩
  obtain ⟨e, he⟩ := LErr.ex W H n Z m S
  by_cases h0 : e = 0
  · subst h0
    obtain ⟨W', H', _, _, _, _, hr⟩ := he.right
    rcases first m with h | ⟨i, h1, h2, h3⟩
    · exact ⟨_, _, _, .none he h⟩
    · obtain ⟨p, q, e1, e2, _⟩ := (hr i h1).right
      exact ⟨_, _, _, .ok i p q he h1 h2 h3 e1 e2⟩
  · exact ⟨_, _, _, .list e h0 he⟩
theorem DropIs.len {W H : Int} {n : Nat} {Z : Nat → Int} {m : Nat} {S : Nat → Sp} {t : Int} {L : List Sp} {g e : Int} (h : DropIs W H n Z m S t L g e) : L.length ≤ m := by
  cases h with
  | list => simp
  | none => simp
  | ok i p q h1 h2 => rw [List.length_append, rng_len, rng_len]; omega

/-- The memory of Drop: the boxes of the land and of the tile. -/
structure DB (W H : Int) (ao : Option Addr) (n cap : Nat) (Z : Nat → Int) (t : Int) (w wr : World) : Prop where
  lb : LB W H ao n cap Z w wr
  ct : wr.cell? ⟨w.heap.size + 1, 0, none⟩ = some (.int .i64 t)
theorem DB.size {W H : Int} {ao : Option Addr} {n cap : Nat} {Z : Nat → Int} {t : Int} {w wr : World} (h : DB W H ao n cap Z t w wr) : w.heap.size + 1 < wr.heap.size := World.block_lt_of_cell? wr _ h.ct
theorem DB.stays {W H : Int} {ao : Option Addr} {n cap : Nat} {Z : Nat → Int} {t : Int} {w wr w' : World} (h : DB W H ao n cap Z t w wr) (k : Below wr.heap.size wr w') : DB W H ao n cap Z t w w' :=
  ⟨h.lb.stays k, (k.cell (p := ⟨w.heap.size + 1, 0, none⟩) h.size).trans h.ct⟩
theorem db_start {W H : Int} {ao : Option Addr} {n cap : Nat} {Z : Nat → Int} {w : World} (t : Int) (hI : Ints w ao n Z) : DB W H ao n cap Z t w ((w.alloc (.cells #[.int .i64 W, .int .i64 H, .slice ao n cap] 24)).alloc (.cells #[.int .i64 t] 3)) :=
  ⟨(lb_start hI).stays (Joins.below_alloc1 _ _), by simp⟩
theorem db_keep {W H : Int} {ao : Option Addr} {n cap : Nat} {Z : Nat → Int} {t : Int} {w wr w' : World} {bl y : Nat} {k p q u : Int} {P : Prop} (hz : bl < w.heap.size) (D : w.cell? ⟨bl, y, none⟩ = some (.int .i64 k) ∧ w.cell? ⟨bl, y + 1, none⟩ = some (.int .i64 p) ∧ w.cell? ⟨bl, y + 2, none⟩ = some (.int .i64 q) ∧ w.cell? ⟨bl, y + 3, none⟩ = some (.int .i64 u)) (h : DB W H ao n cap Z t w wr ∧ P) (hb : Below wr.heap.size wr w') : DB W H ao n cap Z t w w' ∧ w'.cell? ⟨w.heap.size, 0, none⟩ = some (.int .i64 W) ∧ w'.cell? ⟨w.heap.size, 1, none⟩ = some (.int .i64 H) ∧ w'.cell? ⟨w.heap.size, 2, none⟩ = some (.slice ao n cap) ∧ w'.cell? ⟨bl, y, none⟩ = some (.int .i64 k) ∧ w'.cell? ⟨bl, y + 1, none⟩ = some (.int .i64 p) ∧ w'.cell? ⟨bl, y + 2, none⟩ = some (.int .i64 q) ∧ w'.cell? ⟨bl, y + 3, none⟩ = some (.int .i64 u) :=
  have h2 := h.1.stays hb
  have c : ∀ (i : Nat) (x : Value), w.cell? ⟨bl, i, none⟩ = some x → w'.cell? ⟨bl, i, none⟩ = some x := fun i _ e => (h2.lb.below.cell (p := ⟨bl, i, none⟩) hz).trans e
  ⟨h2, h2.lb.c0, h2.lb.c1, h2.lb.c2, c _ _ D.1, c _ _ D.2.1, c _ _ D.2.2.1, c _ _ D.2.2.2⟩
theorem db_ints {W H : Int} {ao : Option Addr} {n cap : Nat} {Z : Nat → Int} {t : Int} {w wr : World} {P : Prop} (h : DB W H ao n cap Z t w wr ∧ P) : Ints wr ao n Z := h.1.lb.ints
theorem db_of {W H : Int} {ao : Option Addr} {n cap : Nat} {Z : Nat → Int} {t : Int} {w wr : World} {P : Prop} (h : DB W H ao n cap Z t w wr ∧ P) : DB W H ao n cap Z t w wr := h.1

set_option maxRecDepth 20000 in
set_option maxHeartbeats 12800000 in
theorem spdrop_to (W H : Int) (ao : Option Addr) (n cap : Nat) (Z : Nat → Int) (hn : n ≤ 9223372036854775807) (lo : Option Addr) (m lcap : Nat) (S : Nat → Sp) (hm : m ≤ 300) (t : Int) (L : List Sp) (g e : Int) (h : DropIs W H n Z m S t L g e) (w : World) (hI : Ints w ao n Z) (hS : SpansAt w lo m S) :
    Calls Try.prog 19 #[lv W H (.slice ao n cap), .slice lo m lcap, .int .i64 t] w fun r w' => ∃ v, r = .returned (.tuple #[v, .int .i64 g, .int .i64 e]) ∧ w'.ownsRow w.heap.size 26 4 v L.length (encL L) ∧ Below w.heap.size w w' := by
  have HM := hid (db_start (W := W) (H := H) (cap := cap) t hI)
  have HS := hid hS
  have hm0 : (0 : Int) ≤ (m : Int) := by omega
  clear hI hS
  cases h with
  | list e h0 hv =>
    have HV := hid hv
    have g : (e != 0) = true := by simpa using h0
    have g2 : (e == 0) = false := by simpa using h0
    clear hv
    go_enter Try.func19, Try.ntmps19
    go_upto_region 1 with fail
    generalize World.alloc (World.alloc w _) _ = wm at HM ⊢
    have c0 := HM.out.lb.c0; have c1 := HM.out.lb.c1; have c2 := HM.out.lb.c2; have ct := HM.out.ct; have hz := HM.out.size
    go_wp2_with (go_at_call 36; (with_reducible refine (validateList_to W H ao n cap Z hn _ m lcap S hm e HV.out _ HM.out.lb.ints (HS.out.stays HM.out.lb.below)).mono ?_); rintro e w1 ⟨rfl, hb⟩; have HN := hid (HM.out.stays hb); clear hb c0 c1 c2 ct hz HM; have HM := HN; clear HN; have c0 := HM.out.lb.c0; have c1 := HM.out.lb.c1; have c2 := HM.out.lb.c2; have ct := HM.out.ct; have hz := HM.out.size)
    go_ret3
    exact ⟨_, rfl, World.ownsRow_nil _ _ _ _, HM.out.lb.below⟩
  | none hv hx =>
    have HV := hid hv
    obtain ⟨v, hv1⟩ : ∃ v : Int, v = -1 := ⟨_, rfl⟩
    have HX : Hid ((v = -1 ∧ ∀ j, j < m → hdP t (S j) = false) ∨ ∃ i : Nat, v = i ∧ i < m ∧ hdP t (S i) = true ∧ ∀ j, j < i → hdP t (S j) = false) := hid (.inl ⟨hv1, hx⟩)
    have hv2 : v < 0 := by omega
    clear hv1
    clear hv hx
    go_enter Try.func19, Try.ntmps19
    go_upto_region 1 with fail
    generalize World.alloc (World.alloc w _) _ = wm at HM ⊢
    have c0 := HM.out.lb.c0; have c1 := HM.out.lb.c1; have c2 := HM.out.lb.c2; have ct := HM.out.ct; have hz := HM.out.size
    go_wp2_with (first | (go_at_call 36; (with_reducible refine (validateList_to W H ao n cap Z hn _ m lcap S hm 0 HV.out _ HM.out.lb.ints (HS.out.stays HM.out.lb.below)).mono ?_); rintro e w1 ⟨rfl, hb⟩; have HN := hid (HM.out.stays hb); clear hb c0 c1 c2 ct hz HM; have HM := HN; clear HN; have c0 := HM.out.lb.c0; have c1 := HM.out.lb.c1; have c2 := HM.out.lb.c2; have ct := HM.out.ct; have hz := HM.out.size) | (go_at_call 37; (with_reducible refine (index_head _ m lcap S hm (w.heap.size + 1) (fun j => hdP t (S j)) _ (HS.out.stays HM.out.lb.below) (fun j hj wr hbb => headC_any _ _ _ _ t (w.heap.size + 1) _ rfl wr ((hbb.cell (p := ⟨w.heap.size + 1, 0, none⟩) HM.out.size).trans HM.out.ct)) v HX.out).mono ?_); rintro e w1 ⟨rfl, hb⟩; have HN := hid (HM.out.stays hb); clear hb c0 c1 c2 ct hz HM; have HM := HN; clear HN; have c0 := HM.out.lb.c0; have c1 := HM.out.lb.c1; have c2 := HM.out.lb.c2; have ct := HM.out.ct; have hz := HM.out.size))
    go_ret3
    exact ⟨_, rfl, World.ownsRow_nil _ _ _ _, HM.out.lb.below⟩
  | ok i p q hv hlt hx hf e1 e2 =>
    have HV := hid hv
    obtain ⟨W, H, rfl, rfl, hg, ha, hr⟩ := hv.right
    obtain ⟨hW1, hW2, hH1, hH2⟩ := hg.side
    have hrt : Rt W H Z (S i).k p q (S i).u := by
      obtain ⟨p', q', e1', e2', h⟩ := (hr i hlt).right
      obtain rfl : p' = p := by omega
      obtain rfl : q' = q := by omega
      exact h
    rw [Int.toNat_natCast]
    obtain ⟨bl, off, rfl, hbz, q0, q1, q2, q3⟩ := HS.out i hlt
    have HX : Hid (((i : Int) = -1 ∧ ∀ j, j < m → hdP t (S j) = false) ∨ ∃ i' : Nat, (i : Int) = i' ∧ i' < m ∧ hdP t (S i') = true ∧ ∀ j, j < i' → hdP t (S j) = false) := hid (.inr ⟨i, rfl, hlt, hx, hf⟩)
    obtain ⟨y, hy⟩ : ∃ y, y = off + i * 4 := ⟨_, rfl⟩
    have ey : off + i * 4 = y := hy.symm
    have hkd := hrt.kd
    have hp2 : p ≤ 1024 := by have := hrt.ha; have := mul_small hW2 hH2; omega
    have hq2 : q ≤ 1024 := by have := hrt.hb; have := mul_small hW2 hH2; omega
    have HL := hid hrt.line
    obtain ⟨k, hkk⟩ : ∃ k, k = (S i).k := ⟨_, rfl⟩
    obtain ⟨u, hu⟩ : ∃ u, u = (S i).u := ⟨_, rfl⟩
    rw [ey] at q0 q1 q2 q3
    rw [e1] at q1
    rw [e2] at q2
    rw [← hkk] at q0
    rw [← hu] at q3
    rw [← hkk] at hkd ⊢
    obtain ⟨G, hG⟩ : ∃ G, G = prc k (cnt (stp W p q) p q) := ⟨_, rfl⟩
    rw [← hG]
    have HG := hid hG
    have D := hid (And.intro q0 (And.intro q1 (And.intro q2 q3)))
    have hi0 : (0 : Int) ≤ (i : Int) := by omega
    have hi1 : (i : Int) < (m : Int) := by omega
    have hi2 : ¬ ((i : Int) < 0) := by omega
    clear hv hx hf hr hg ha hrt q0 q1 q2 q3 hG hy hkk hu e1 e2
    go_enter Try.func19, Try.ntmps19
    go_upto_region 1 with fail
    generalize World.alloc (World.alloc w _) _ = wm at HM ⊢
    have c0 := HM.out.lb.c0; have c1 := HM.out.lb.c1; have c2 := HM.out.lb.c2; have ct := HM.out.ct; have hz := HM.out.size
    go_upto_region 7 with (first | (go_at_call 36; (with_reducible refine (validateList_to W H ao n cap Z hn _ m lcap S hm 0 HV.out _ HM.out.lb.ints (HS.out.stays HM.out.lb.below)).mono ?_); rintro e w1 ⟨rfl, hb⟩; have HN := hid (HM.out.stays hb); clear hb c0 c1 c2 ct hz HM; have HM := HN; clear HN; have c0 := HM.out.lb.c0; have c1 := HM.out.lb.c1; have c2 := HM.out.lb.c2; have ct := HM.out.ct; have hz := HM.out.size) | (go_at_call 37; (with_reducible refine (index_head _ m lcap S hm (w.heap.size + 1) (fun j => hdP t (S j)) _ (HS.out.stays HM.out.lb.below) (fun j hj wr hbb => headC_any _ _ _ _ t (w.heap.size + 1) _ rfl wr ((hbb.cell (p := ⟨w.heap.size + 1, 0, none⟩) HM.out.size).trans HM.out.ct)) i HX.out).mono ?_); rintro e w1 ⟨rfl, hb⟩; have HN := hid (HM.out.stays hb); clear hb c0 c1 c2 ct hz HM; have HM := HN; clear HN; have c0 := HM.out.lb.c0; have c1 := HM.out.lb.c1; have c2 := HM.out.lb.c2; have ct := HM.out.ct; have hz := HM.out.size))
    refine wp_region_held_drew (S := (fun wr => DB W H ao n cap Z t w wr ∧ wr.cell? ⟨w.heap.size, 0, none⟩ = some (.int .i64 W) ∧ wr.cell? ⟨w.heap.size, 1, none⟩ = some (.int .i64 H) ∧ wr.cell? ⟨w.heap.size, 2, none⟩ = some (.slice ao n cap) ∧ wr.cell? ⟨bl, y, none⟩ = some (.int .i64 k) ∧ wr.cell? ⟨bl, y + 1, none⟩ = some (.int .i64 p) ∧ wr.cell? ⟨bl, y + 2, none⟩ = some (.int .i64 q) ∧ wr.cell? ⟨bl, y + 3, none⟩ = some (.int .i64 u))) (by kernel_rfl) (db_keep hbz D.out (And.intro HM.out trivial) ((Below.refl _ _).drew)) (fun hHeld => ?_)
    refine wpAnyH_take (i := 0) (oi := { dst := some 23, op := Op.load 24 (Operand.tmp 3), type := 24, pos := "list.go:50", after := #[], guard := none }) (v := ?_) rfl (by kernel_rfl) (by kernel_rfl) (by kernel_rfl) (fun _ _ _ h => h) (Or.inl ⟨by rfl, ?_⟩) (by assumption) ?_
    rotate_left
    · intro w hSw; (try dsimp only at hSw); go_simp; try (with_reducible rfl)
    try simp only [Act.put, List.setIfInBounds_toArray, List.set_cons_zero, List.set_cons_succ]
    refine wpAnyH_take (i := 1) (oi := { dst := some 24, op := Op.move (Operand.tmp 1), type := 34, pos := "list.go:50", after := #[], guard := none }) (v := ?_) rfl (by kernel_rfl) (by kernel_rfl) (by kernel_rfl) (fun _ _ _ h => h) (Or.inl ⟨by rfl, ?_⟩) (by assumption) ?_
    rotate_left
    · intro w hSw; (try dsimp only at hSw); go_simp; try (with_reducible rfl)
    try simp only [Act.put, List.setIfInBounds_toArray, List.set_cons_zero, List.set_cons_succ]
    refine wpAnyH_take (i := 2) (oi := { dst := some 25, op := Op.move (Operand.tmp 10), type := 3, pos := "list.go:50", after := #[], guard := none }) (v := ?_) rfl (by kernel_rfl) (by kernel_rfl) (by kernel_rfl) (fun _ _ _ h => h) (Or.inl ⟨by rfl, ?_⟩) (by assumption) ?_
    rotate_left
    · intro w hSw; (try dsimp only at hSw); go_simp; try (with_reducible rfl)
    try simp only [Act.put, List.setIfInBounds_toArray, List.set_cons_zero, List.set_cons_succ]
    refine wpAnyH_take (i := 3) (oi := { dst := some 26, op := Op.indexAddr 34 (Operand.tmp 24) (Operand.tmp 25), type := 0, pos := "list.go:50", after := #[{ on := 1, ground := Ground.data }, { on := 2, ground := Ground.data }], guard := none }) (v := ?_) rfl (by kernel_rfl) (by kernel_rfl) (by kernel_rfl) (fun _ _ _ h => h) (Or.inl ⟨by rfl, ?_⟩) (by assumption) ?_
    rotate_left
    · intro w hSw; (try dsimp only at hSw); go_simp; try (with_reducible rfl)
    try simp only [Act.put, List.setIfInBounds_toArray, List.set_cons_zero, List.set_cons_succ]
    refine wpAnyH_take (i := 4) (oi := { dst := some 27, op := Op.load 26 (Operand.tmp 26), type := 26, pos := "list.go:50", after := #[{ on := 3, ground := Ground.data }], guard := none }) (v := ?_) rfl (by kernel_rfl) (by kernel_rfl) (by kernel_rfl) (fun _ _ _ h => h) (Or.inl ⟨by rfl, ?_⟩) (by assumption) ?_
    rotate_left
    · intro w hSw; (try dsimp only at hSw); go_simp; try (with_reducible rfl)
    try simp only [Act.put, List.setIfInBounds_toArray, List.set_cons_zero, List.set_cons_succ]
    refine wpAnyH_ready (rs := [5]) (by kernel_rfl) (by simp) ?_
    refine AllReadyH.cons (o := { dst := some 28, op := Op.call { callee := Callee.value (Operand.func 34), args := #[Operand.tmp 23, Operand.tmp 27], argTypes := #[24, 26] }, type := 3, pos := "list.go:50", after := #[{ on := 0, ground := Ground.data }, { on := 4, ground := Ground.data }], guard := none }) rfl (fun K hK => ?_) AllReadyH.nil
    go_simp
    refine (cost_any W H hW1 hW2 ao n cap Z k u (kd_le hkd) p q hp2 hq2 HL.out _ (db_ints (by assumption))).mono ?_
    rw [← HG.out]
    rintro r' w' ⟨rfl, hb⟩
    try go_wp2_with fail
    refine hK.out _ _ (db_keep hbz D.out (by assumption) hb) (fun hHeld2 => ?_)
    clear hK K
    try simp only [Act.put, List.setIfInBounds_toArray, List.set_cons_zero, List.set_cons_succ]
    refine wpAnyH_take (i := 6) (oi := { dst := some 29, op := Op.binOp BinOp.quo 3 (Operand.tmp 28) (Operand.const (Value.int IntKind.i64 4)) 3, type := 3, pos := "list.go:50", after := #[{ on := 5, ground := Ground.data }], guard := none }) (v := ?_) rfl (by kernel_rfl) (by kernel_rfl) (by kernel_rfl) (fun _ _ _ h => h) (Or.inl ⟨by rfl, ?_⟩) (by assumption) ?_
    rotate_left
    · intro w hSw; (try dsimp only at hSw); go_simp; try (with_reducible rfl)
    try simp only [Act.put, List.setIfInBounds_toArray, List.set_cons_zero, List.set_cons_succ]
    refine wpAnyH_take (i := 7) (oi := { dst := some 11, op := Op.assign (Operand.tmp 29), type := 3, pos := "list.go:50", after := #[{ on := 6, ground := Ground.data }, { on := 5, ground := Ground.chain }, { on := 0, ground := Ground.phase }, { on := 1, ground := Ground.phase }, { on := 2, ground := Ground.phase }, { on := 3, ground := Ground.phase }, { on := 4, ground := Ground.phase }, { on := 5, ground := Ground.phase }, { on := 6, ground := Ground.phase }], guard := none }) (v := ?_) rfl (by kernel_rfl) (by kernel_rfl) (by kernel_rfl) (fun _ _ _ h => h) (Or.inl ⟨by rfl, ?_⟩) (by assumption) ?_
    rotate_left
    · intro w hSw; (try dsimp only at hSw); go_simp; try (with_reducible rfl)
    try simp only [Act.put, List.setIfInBounds_toArray, List.set_cons_zero, List.set_cons_succ]
    refine wpAnyH_done (by kernel_rfl) ?_ _
    have HZ := hid (db_of (by assumption))
    obtain ⟨wz, hwz⟩ : ∃ wz, wz = w' := ⟨_, rfl⟩
    rw [← hwz] at HZ ⊢
    clear hwz HM c0 c1 c2 ct hz
    have HJ : Hid (i < m) := hid hlt
    have hj : IntKind.i64.wrap ((i : Int) + 1) = ((i + 1 : Nat) : Int) := by rw [IntKind.wrap_i64]; omega
    go_wp2_with (first | (go_at_call 41; refine (cloneS_any _ m lcap S (by have := HJ.out; omega) hm _ (HS.out.stays HZ.out.lb.below)).mono ?_; rintro r w1 ⟨g, c, rfl, hrow, hb⟩; have HR1 := hid (row_mono hrow (show w.heap.size ≤ _ from HZ.out.lb.below.size)); have HB1 := hid (step HZ.out.lb.below hb); clear hrow hb) | (go_at_call 40; refine (delete_any w.heap.size _ m _ i (i + 1) S rfl HJ.out hm _ HR1.out).mono ?_; rintro r w1 ⟨rfl, hrow, hb⟩; have HR2 := hid hrow; have HB2 := hid (HB1.out.trans hb); clear hrow hb))
    go_ret3
    exact ⟨_, rfl, by rw [List.length_append, rng_len, rng_len]; exact HR2.out, HB2.out⟩
end Go.Proofs.Ytpohhcmkkjcelaa
