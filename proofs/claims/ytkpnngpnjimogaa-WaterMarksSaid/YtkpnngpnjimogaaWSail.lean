/-
  The walk of Sail of the program.
-/
import Derived.Test.YtkpnngpnjimogaaWTop
namespace Go.Proofs.Ytkpnngpnjimogaa
open Go.RowKit

def LtS (S : Nat) : BS → Prop
  | .st _ _ b => ∀ x, (b x).isSome = true → x < S
  | .inn _ _ b _ => ∀ x, (b x).isSome = true → x < S
  | .fin b => ∀ x, (b x).isSome = true → x < S
theorem lt_upd {S n p : Nat} {b : Nat → Option Nat} (h : ∀ x, (b x).isSome = true → x < S) (hn : n < S) : ∀ x, (upd b n p x).isSome = true → x < S := by
  intro x hx
  by_cases e : x = n
  · subst e; exact hn
  · rw [upd_other _ _ e] at hx; exact h x hx
theorem Bf.lt {adj : Nat → List Nat} {fr tg S : Nat} (hf : fr < S) (ha : ∀ t, t < S → ∀ n ∈ adj t, n < S) {s : BS} (h : Bf adj fr tg s) : LtS S s := by
  induction h with
  | start => exact lt_upd (fun x hx => by cases hx) hf
  | opn _ _ ih => exact ih
  | skip _ _ ih => exact ih
  | add h _ _ ih => exact lt_upd ih ((h.inv hf ha).2.2 _ (by simp))
  | hit h _ _ ih => exact lt_upd ih ((h.inv hf ha).2.2 _ (by simp))
  | close _ ih => exact ih
  | done _ _ ih => exact ih
/-- A number is that of a tile on which a ship may be. -/
def Sails (d : Wat) (x : Int) : Prop := ∃ u : Nat, x = u ∧ u < d.W * d.H ∧ wt d.W d.Z d.K u = true
theorem sails_to (d : Wat) (hg : Good d.W d.H d.n d.Z) (hm : d.m = d.W * d.H) (M : Nat) (t : Int) (r : Bool) (hr : r = true ↔ Sails d t) (w : World) (hC : Cx d M w) :
    Calls Try.prog 56 #[d.cht M, .int .i64 t] w fun e w' => e = .returned (.bool r) ∧ Nx d M w w' := sails_any d hg hm M t r hr w hC
/-- What Sail answers on right waters. -/
def SailIs (d : Wat) (fr tg : Int) (L : List Nat) (e : Int) : Prop :=
  (e = 2 ∧ L = [] ∧ ¬ (Sails d fr ∧ Sails d tg)) ∨
  ∃ (u v : Nat) (b : Nat → Option Nat), fr = u ∧ tg = v ∧ (u < d.W * d.H ∧ wt d.W d.Z d.K u = true) ∧ (v < d.W * d.H ∧ wt d.W d.Z d.K v = true) ∧ Bf (bes d.W d.H d.Z d.K) u v (.fin b) ∧ ((e = 2 ∧ L = [] ∧ b v = none) ∨ (e = 0 ∧ Chain b u v L))
/-- A list and an error, handed back. -/
def LstE (L : List Nat) (e : Int) (w : World) (r : Ending) (w' : World) : Prop :=
  ∃ ao cap, r = .returned (.tuple #[.slice ao L.length cap, .int .i64 e]) ∧ w'.ownsRow w.heap.size 3 1 (.slice ao L.length cap) L.length (encN L) ∧ Below w.heap.size w w'
def SailP (d : Wat) (fr tg : Int) (w : World) (r : Ending) (w' : World) : Prop := ∃ L e, SailIs d fr tg L e ∧ LstE L e w r w'
theorem lst_nil {e : Int} {w w' : World} (h : Below w.heap.size w w') : LstE [] e w (.returned (.tuple #[.slice none 0 0, .int .i64 e])) w' := ⟨none, 0, rfl, World.ownsRow_nil _ _ _ _, h⟩

/-- The memory of the way back: what survey left, the map, the list. -/
structure SL (d : Wat) (M N : Nat) (b : Nat → Option Nat) (R : List Nat) (lst : Value) (w w1 wr : World) : Prop where
  tb : TB d M w w1 wr
  ge : w1.heap.size < N
  mv : MV N (d.W * d.H) b wr
  row : wr.ownsRow (N + 1) 3 1 lst R.length (encN R)
theorem SL.app {d : Wat} {M N x : Nat} {b : Nat → Option Nat} {R : List Nat} {lst lst' : Value} {w w1 wr w' : World} (h : SL d M N b R lst w w1 wr) (hr : w'.ownsRow (N + 1) 3 1 lst' (R.length + 1) (encN R ++ [.int .i64 (x : Int)])) (o : Obj) (hg : (wr.alloc o).grownBy w' lst.ownBlock) : SL d M N b (R ++ [x]) lst' w w1 w' := by
  have hN := h.mv.lt
  have ho : ∀ k, lst.ownBlock = some k → N + 1 ≤ k := fun k hk => (h.row.lt k hk).1
  have hb : Below (N + 1) wr w' := ((Below.refl _ wr).alloc (by omega) o).grown hg (by simp; omega) ho
  refine ⟨h.tb.lift hb (by have := h.ge; omega), h.ge, h.mv.same (hb.block N (by omega)), ?_⟩
  rw [List.length_append, encN_snoc]
  exact hr
theorem SL.start {d : Wat} {M N v : Nat} {b : Nat → Option Nat} {w w1 wr : World} (h : TB d M w w1 wr) (hN : w1.heap.size < N) (hm : MV N (d.W * d.H) b wr) :
    SL d M N b [v] (.slice (some ⟨wr.heap.size, 0, none⟩) 1 1) w w1 (wr.alloc (.cells #[.int .i64 (v : Int)] 3)) := by
  have hz := hm.lt
  refine ⟨h.go (Joins.below_alloc1 _ _), hN, hm.same ((Joins.below_alloc1 _ _).block _ hz), rfl, .inr ⟨wr.heap.size, 1, #[.int .i64 (v : Int)], rfl, by omega, ?_, Nat.le_refl _, by unfold maxLen; omega, rfl, by simp [encN]⟩⟩
  show (wr.heap.push _)[_]? = _
  rw [Array.getElem?_push, if_pos rfl]

set_option maxRecDepth 20000 in
set_option maxHeartbeats 12800000 in
theorem sail_yes (d : Wat) (hg : Good d.W d.H d.n d.Z) (hf : Fine d.W d.H d.m d.q d.Z d.K d.Y) (hq : d.q ≤ 4000) (fr tg : Int) (w : World) (hl : Ints w (some ⟨d.ab, d.aoff, none⟩) d.n d.Z) (hk : Ints w (some ⟨d.kb, d.koff, none⟩) d.m d.K) (hb : Ints w d.bo d.q d.Y) :
    Calls Try.prog 35 #[d.lnd, d.wts, .int .i64 fr, .int .i64 tg] w (SailP d fr tg w) := by
  have hsd := hg.side
  have hsm := mul_small hsd.2.1 hsd.2.2.2
  have hSz : Sized d.W d.H := ⟨⟨by omega, by omega⟩, by omega, by omega⟩
  have HL := hid (LW.start (W := d.W) (H := d.H) (cap := d.cap) (kcap := d.kcap) (bcap := d.bcap) hl hk hb)
  have HG := hid hg
  have HF := hid hf
  have HIN := hid infoX
  have HSM := hid hsm
  have HSZ := hid hSz
  clear hl hk hb hg hf hsd hsm hSz
  by_cases h1 : Sails d fr
  · by_cases h2 : Sails d tg
    · obtain ⟨u, rfl, hu, hwu⟩ := h1
      obtain ⟨v, rfl, hv, hwv⟩ := h2
      have H1 : Hid (Sails d u) := hid ⟨u, rfl, hu, hwu⟩
      have H2 : Hid (Sails d v) := hid ⟨v, rfl, hv, hwv⟩
      have HU := hid (And.intro hu hwu)
      have HV := hid (And.intro hv hwv)
      have hu2 : u ≤ 1024 := by have := HSM.out; omega
      have hv2 : v ≤ 1024 := by have := HSM.out; omega
      clear hu hwu hv hwv
      go_enter Try.func35, Try.ntmps35
      go_upto_region 2 with (go_at_call 40; (refine (survey_yes d HG.out HF.out hq _ HL.out.land HL.out.kinds HL.out.buoys).mono ?_); rintro r w1 ⟨M, rfl, hb, hM, hC⟩; have HT := hid (TB.start HL.out hb hM hC); have HC := hid hC; have HMM := hid hM; clear hb hM hC)
      generalize World.alloc _ _ = wt1 at HT ⊢
      have c0 := HT.out.cb.c0
      have c1 := HT.out.cb.c1
      have c2 := HT.out.cb.c2
      have c3 := HT.out.cb.c3
      have c4 := HT.out.cb.c4
      have c5 := HT.out.cb.c5
      have hz := HT.out.cb.size
      go_upto_region 7 with (first
        | (go_at_call 56; ((with_reducible refine (sails_to d HG.out HF.out.len _ u true ⟨fun _ => H1.out, fun _ => rfl⟩ _ HT.out.cb.cx).mono ?_)); rintro r wn ⟨rfl, hn⟩; have HTn := hid (HT.out.on hn); clear hn c0 c1 c2 c3 c4 c5 hz HT; have HT := HTn; clear HTn; have c0 := HT.out.cb.c0; have c1 := HT.out.cb.c1; have c2 := HT.out.cb.c2; have c3 := HT.out.cb.c3; have c4 := HT.out.cb.c4; have c5 := HT.out.cb.c5; have hz := HT.out.cb.size)
        | (go_at_call 56; ((with_reducible refine (sails_to d HG.out HF.out.len _ v true ⟨fun _ => H2.out, fun _ => rfl⟩ _ HT.out.cb.cx).mono ?_)); rintro r wn ⟨rfl, hn⟩; have HTn := hid (HT.out.on hn); clear hn c0 c1 c2 c3 c4 c5 hz HT; have HT := HTn; clear HTn; have c0 := HT.out.cb.c0; have c1 := HT.out.cb.c1; have c2 := HT.out.cb.c2; have c3 := HT.out.cb.c3; have c4 := HT.out.cb.c4; have c5 := HT.out.cb.c5; have hz := HT.out.cb.size)
        | (go_at_call 67; ((with_reducible refine (search_any d HG.out HF.out.len _ u v HU.out.1 HV.out.1 _ HT.out.cb.cx).mono ?_)); rintro r ws ⟨N, b, rfl, hN, hmv, hbf, hn⟩; have HB := hid hbf; have HMV := hid hmv; have hNN := Nat.lt_trans HT.out.ge hN; clear hbf hmv hN; have HTn := hid (HT.out.on hn); clear hn c0 c1 c2 c3 c4 c5 hz HT; have HT := HTn; clear HTn; have c0 := HT.out.cb.c0; have c1 := HT.out.cb.c1; have c2 := HT.out.cb.c2; have c3 := HT.out.cb.c3; have c4 := HT.out.cb.c4; have c5 := HT.out.cb.c5; have hz := HT.out.cb.size))
      have HLT := hid (HB.out.lt HU.out.1 (fun t ht => bes_in HSZ.out d.Z d.K ht))
      have HWY := hid (HB.out.ways HU.out.1 (fun t ht => bes_in HSZ.out d.Z d.K ht))
      obtain ⟨x, hrun⟩ := HMV.out.look HV.out.1 HSM.out
      obtain ⟨q, hqq⟩ : ∃ q, q = (b v).isSome := ⟨_, rfl⟩
      rw [← hqq] at hrun
      have HQ := hid hqq
      clear hqq
      cases q
      · have hbn : b v = none := by have := HQ.out; cases h : b v with | none => rfl | some v => rw [h] at this; cases this
        have HBN := hid hbn
        clear hbn
        go_wp2_with fail
        go_ret2
        exact ⟨[], 2, .inr ⟨u, v, b, rfl, rfl, HU.out, HV.out, HB.out, .inl ⟨rfl, rfl, HBN.out⟩⟩, lst_nil HT.out.below⟩
      · obtain ⟨P, hP, hPl⟩ := HWY.out v HQ.out.symm
        obtain ⟨l, hl⟩ := hP.last
        have HP := hid hP
        have hl2 : l.length + 1 ≤ d.W * d.H + 1 := by rw [hl] at hPl; simpa using hPl
        have HPL : Hid (P = l ++ [v] ∧ l.length ≤ 1024) := hid ⟨hl, by have := HSM.out; omega⟩
        have HS := hid (SL.start (v := v) HT.out hNN HMV.out)
        clear hP hPl hl hl2 c0 c1 c2 c3 c4 c5 hz
        go_upto_region 11 with fail
        clear hrun hNN HT HMV HWY
        generalize World.alloc _ _ = wv at HS ⊢
        generalize ws.heap.size = g0 at HS ⊢
        go_wp2_with fail
        go_loopg [15, 16] l.length (fun gk lst iv wr => ∃ (z g cap : Nat) (R l : List Nat), gk = l.length ∧ z ≤ 1024 ∧ iv = .int .i64 z ∧ lst = .slice (some ⟨g, 0, none⟩) R.length cap ∧ Hid (Chain b u z (l ++ [z]) ∧ P = l ++ R.reverse ∧ l.length + R.length ≤ 1025 ∧ z < d.W * d.H) ∧ Hid (SL d M N b R lst w w1 wr))
        case atStart => exact ⟨v, g0, 1, [v], l, rfl, hv2, rfl, rfl, hid ⟨by rw [← HPL.out.1]; exact HP.out, by rw [HPL.out.1]; rfl, by have := HPL.out.2; simp; omega, HV.out.1⟩, HS⟩
        case round =>
          clear HS
          obtain ⟨z, g, cap, R, l', hgk, hz, rfl, rfl, HC, HS⟩ := hrel
          have HGK := hid hgk
          clear hgk
          by_cases hzu : z = u
          · subst hzu
            have hR : P = R.reverse := by
              have h1 := HC.out.1.one
              have : l' = [] := by
                cases l' with
                | nil => rfl
                | cons a b => simp at h1
              rw [HC.out.2.1, this]; rfl
            have HRR := hid hR
            have hRl : R.length ≤ 1025 := by have := HC.out.2.2.1; omega
            clear hR
            go_wp2_with (go_at_call 68; (refine (reverse_own (N + 1) g cap R _ HS.out.row (by omega)).mono ?_); rintro r wz ⟨rfl, hrow, hb⟩; have HRW := hid hrow; have HBW := hid hb; clear hrow hb)
            go_ret2
            refine ⟨P, 0, .inr ⟨z, v, b, rfl, rfl, HU.out, HV.out, HB.out, .inr ⟨rfl, HP.out⟩⟩, some ⟨g, 0, none⟩, cap, ?_, ?_, ?_⟩
            · rw [HRR.out, List.length_reverse]
              rfl
            · rw [HRR.out, List.length_reverse]
              exact row_mono HRW.out (by have h1 := HS.out.ge; have h2 := HS.out.tb.size; omega)
            · have h1 := HS.out.ge
              have h2 := HS.out.tb.size
              exact HS.out.tb.below.trans (HBW.out.mono (by omega))
          · have hch := HC.out.1
            obtain ⟨p, hbp, hcp⟩ : ∃ p, b z = some p ∧ Chain b u p l' := by
              generalize hl0 : l' ++ [z] = l0 at hch
              cases hch with
              | base => exact absurd rfl hzu
              | @step _ p l1 h1 h2 h3 =>
                have := List.append_inj_left' hl0 rfl
                subst this
                exact ⟨p, h1, h3⟩
            have hps : p < d.W * d.H := by
              generalize hl0 : l' = l0 at hcp
              cases hcp with
              | base => exact HU.out.1
              | step h1 _ _ => exact HLT.out p (by rw [h1]; rfl)
            obtain ⟨l2, hl2⟩ := hcp.last
            have hp2 : p ≤ 1024 := by have := HSM.out; omega
            have hrun := HS.out.mv.get HC.out.2.2.2 HSM.out hbp
            have HNX : Hid (Chain b u p (l2 ++ [p]) ∧ P = l2 ++ (R ++ [p]).reverse ∧ l2.length + (R ++ [p]).length ≤ 1025 ∧ p < d.W * d.H) := hid ⟨by rw [← hl2]; exact hcp, by rw [HC.out.2.1, hl2]; simp, by have := HC.out.2.2.1; rw [hl2] at this; simp at this ⊢; omega, hps⟩
            have HL2 : Hid (l'.length = l2.length + 1) := hid (by rw [hl2]; simp)
            have hzu' : ((z : Int) == (u : Int)) = false := by rw [beq_eq_false_iff_ne]; omega
            have hzu2 : ((z : Int) != (u : Int)) = true := by rw [bne_iff_ne]; omega
            have hRl : R.length ≤ 1025 := by have := HC.out.2.2.1; omega
            have hzN := HS.out.mv.lt
            clear hch hbp hcp hps hl2
            go_wp2_with (at_builtin; obtain ⟨i0, HIN'⟩ := HIN.out; refine wpList_append_lies _ rfl _ _ 22 rfl (N + 1) 3 i0 (.int .i64 0) 1 8 Try.underlying22 HIN'.1 HIN'.2.1 HIN'.2.2.1 HIN'.2.2.2 rfl (by decide) _ _ _ rfl (HS.out.row.alloc _) ⟨wr.heap.size, 0, none⟩ 1 1 [.int .i64 p] rfl rfl ?c1 ?c2 (by decide) ?c3 ?c4 ?c5 (wr.heap.size + 1) (by simp) ?_)
            case c1 =>
              intro j u hj
              match j, hj with
              | 0, hj => simp at hj; subst hj; simp [Addr.add]
            case c2 => intro u hu; simp at hu; subst hu; rfl
            case c3 => unfold maxLen; omega
            case c4 => omega
            case c5 => simp; omega
            intro g2 cap2 w6 hown hgrow hat hlt6
            have HS6 := hid (HS.out.app (x := p) hown _ hgrow)
            have hle : R.length + 1 = (R ++ [p]).length := by simp
            clear hown hgrow hat hlt6 hrun
            rw [hle] at HS6 ⊢
            clear hle
            go_wp2_with fail
            go_roundg l2.length
            case measure => have h1 := HGK.out; have h2 := HL2.out; omega
            case rel => exact ⟨p, g2, cap2, R ++ [p], l2, rfl, hp2, rfl, rfl, HNX, HS6⟩
    · have H1 := hid h1
      have H2 := hid h2
      clear h1 h2
      go_enter Try.func35, Try.ntmps35
      go_upto_region 2 with (go_at_call 40; (refine (survey_yes d HG.out HF.out hq _ HL.out.land HL.out.kinds HL.out.buoys).mono ?_); rintro r w1 ⟨M, rfl, hb, hM, hC⟩; have HT := hid (TB.start HL.out hb hM hC); have HC := hid hC; have HMM := hid hM; clear hb hM hC)
      generalize World.alloc _ _ = wt1 at HT ⊢
      have c0 := HT.out.cb.c0
      have c1 := HT.out.cb.c1
      have c2 := HT.out.cb.c2
      have c3 := HT.out.cb.c3
      have c4 := HT.out.cb.c4
      have c5 := HT.out.cb.c5
      have hz := HT.out.cb.size
      go_wp2_with (first
        | (go_at_call 56; ((with_reducible refine (sails_to d HG.out HF.out.len _ fr true ⟨fun _ => H1.out, fun _ => rfl⟩ _ HT.out.cb.cx).mono ?_)); rintro r wn ⟨rfl, hn⟩; have HTn := hid (HT.out.on hn); clear hn c0 c1 c2 c3 c4 c5 hz HT; have HT := HTn; clear HTn; have c0 := HT.out.cb.c0; have c1 := HT.out.cb.c1; have c2 := HT.out.cb.c2; have c3 := HT.out.cb.c3; have c4 := HT.out.cb.c4; have c5 := HT.out.cb.c5; have hz := HT.out.cb.size)
        | (go_at_call 56; ((with_reducible refine (sails_to d HG.out HF.out.len _ tg false ⟨fun h => (by cases h), fun h => absurd h H2.out⟩ _ HT.out.cb.cx).mono ?_)); rintro r wn ⟨rfl, hn⟩; have HTn := hid (HT.out.on hn); clear hn c0 c1 c2 c3 c4 c5 hz HT; have HT := HTn; clear HTn; have c0 := HT.out.cb.c0; have c1 := HT.out.cb.c1; have c2 := HT.out.cb.c2; have c3 := HT.out.cb.c3; have c4 := HT.out.cb.c4; have c5 := HT.out.cb.c5; have hz := HT.out.cb.size))
      go_ret2
      exact ⟨[], 2, .inl ⟨rfl, rfl, fun h => H2.out h.2⟩, lst_nil HT.out.below⟩
  · have H1 := hid h1
    clear h1
    go_enter Try.func35, Try.ntmps35
    go_upto_region 2 with (go_at_call 40; (refine (survey_yes d HG.out HF.out hq _ HL.out.land HL.out.kinds HL.out.buoys).mono ?_); rintro r w1 ⟨M, rfl, hb, hM, hC⟩; have HT := hid (TB.start HL.out hb hM hC); have HC := hid hC; have HMM := hid hM; clear hb hM hC)
    generalize World.alloc _ _ = wt1 at HT ⊢
    have c0 := HT.out.cb.c0
    have c1 := HT.out.cb.c1
    have c2 := HT.out.cb.c2
    have c3 := HT.out.cb.c3
    have c4 := HT.out.cb.c4
    have c5 := HT.out.cb.c5
    have hz := HT.out.cb.size
    go_wp2_with (go_at_call 56; ((with_reducible refine (sails_to d HG.out HF.out.len _ fr false ⟨fun h => (by cases h), fun h => absurd h H1.out⟩ _ HT.out.cb.cx).mono ?_)); rintro r wn ⟨rfl, hn⟩; have HTn := hid (HT.out.on hn); clear hn c0 c1 c2 c3 c4 c5 hz HT; have HT := HTn; clear HTn; have c0 := HT.out.cb.c0; have c1 := HT.out.cb.c1; have c2 := HT.out.cb.c2; have c3 := HT.out.cb.c3; have c4 := HT.out.cb.c4; have c5 := HT.out.cb.c5; have hz := HT.out.cb.size)
    go_ret2
    exact ⟨[], 2, .inl ⟨rfl, rfl, fun h => H1.out h.1⟩, lst_nil HT.out.below⟩
end Go.Proofs.Ytkpnngpnjimogaa
