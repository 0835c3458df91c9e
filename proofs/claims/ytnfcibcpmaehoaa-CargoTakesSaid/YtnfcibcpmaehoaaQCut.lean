/-
  The walk of cut of the reference.
-/
import Derived.Test.YtnfcibcpmaehoaaQCt
import Derived.Test.YtnfcibcpmaehoaaQPut
import Derived.Test.YtnfcibcpmaehoaaQTak
namespace Go.Proofs.Ytnfcibcpmaehoaa
open Go.RowKit

theorem TK.put {B : Nat} {tl ll tl' : List Par} {tv lv tv' : Value} {w wr w' : World} (h : TK B tl ll tv lv w wr) (k : Below wr.heap.size wr w') (r : RowL w' wr.heap.size tv' tl') : TK B tl' ll tv' lv w w' :=
  ⟨row_mono r h.size, row_stays h.l k, fun x hx e => by have h1 := (r.lt x hx).1; have h2 := (h.l.lt x e).2; omega, h.below.trans (k.mono h.size), Nat.le_trans h.size k.size⟩
theorem muldivc_any (a b c q : Int) (h1 : 1 ≤ c) (z : Int) (hz : IntKind.i64.wrap (a * b) = z) (hq : IntKind.i64.wrap (Int.tdiv z c) = q) (w : World) :
    Calls Try.prog 78 #[.int .i64 a, .int .i64 b, .int .i64 c] w fun e w' => e = .returned (.int .i64 q) ∧ w = w' := by
  have hc : (c == 0) = false := by simp; omega
  have hc2 : ¬ c = 0 := by omega
  go_enter Try.func78, Try.ntmps78
  go_wp2_with fail
  go_ret
  exact ⟨rfl, rfl⟩
theorem lf_mid (LA : List Par) (x : Par) (LC : List Par) : lf (LA ++ x :: LC) LA.length = x := by
  have := lf_right LA (x :: LC) (i := 0) (by simp)
  rw [Nat.add_zero] at this
  rw [this]; rfl
theorem mid_bst (LA : List Par) (x : Par) (LC : List Par) (k : Int) (hk : x.k = k) (h1 : ∀ y ∈ LA, y.k = k → y.a < x.a) (h2 : ∀ y ∈ LC, y.k = k → y.a ≤ x.a) {m : Nat} (hm : m = (LA ++ x :: LC).length) : bst (lf (LA ++ x :: LC)) k m = (LA.length : Int) := by
  have hl : m = LA.length + (LC.length + 1) := by rw [hm]; simp
  have := bst_is (L := lf (LA ++ x :: LC)) (k := k) (t := LA.length) (m := m) (by rw [lf_mid]; exact hk) (fun j hj hkj => by
    rw [lf_left _ _ hj] at hkj ⊢
    rw [lf_mid]
    rw [lf_at _ hj] at hkj ⊢
    exact h1 _ (List.getElem_mem hj) hkj) (fun j hj1 hj2 hkj => by
    obtain ⟨d, rfl⟩ : ∃ d, j = LA.length + (d + 1) := ⟨j - LA.length - 1, by omega⟩
    have hd : d < LC.length := by omega
    have e : lf (LA ++ x :: LC) (LA.length + (d + 1)) = LC[d] := by
      rw [lf_right _ _ (by simp; omega), lf_at _ (by simp; omega)]; rfl
    rw [e] at hkj ⊢
    rw [lf_mid]
    exact h2 _ (List.getElem_mem hd) hkj) LC.length (by omega)
  rw [show LA.length + 1 + LC.length = m by omega] at this
  exact this
def setC (x : Par) (c : Int) : Par := ⟨x.k, x.f, x.t, x.a, c, x.s⟩
theorem encP_setC (q : Nat) (L : Nat → Par) (j : Nat) (s : Int) : (encP q L).set (j * 6 + 4) (.int .i64 s) = encP q (updP L j (setC (L j) s)) := by
  refine encP_ext (by simp [encP_length]) fun i t hi ht => ?_
  have ht6 : t = 0 ∨ t = 1 ∨ t = 2 ∨ t = 3 ∨ t = 4 ∨ t = 5 := by omega
  by_cases e : i = j
  · subst e
    rw [updP_same]
    have h0 := encP_length q L
    rcases ht6 with rfl | rfl | rfl | rfl | rfl | rfl
    · rw [List.getElem?_set_ne (by omega)]; exact encP_get L hi (by omega)
    · rw [List.getElem?_set_ne (by omega)]; exact encP_get L hi (by omega)
    · rw [List.getElem?_set_ne (by omega)]; exact encP_get L hi (by omega)
    · rw [List.getElem?_set_ne (by omega)]; exact encP_get L hi (by omega)
    · rw [List.getElem?_set_self (by omega)]; rfl
    · rw [List.getElem?_set_ne (by omega)]; exact encP_get L hi (by omega)
  · rw [updP_ne _ _ e, ← encP_get L hi ht]
    rw [List.getElem?_set_ne (by omega)]
theorem RowP.putC {w : World} {B g q c : Nat} {L : Nat → Par} (h : RowP w B (.slice (some ⟨g, 0, none⟩) q c) q L) (j : Nat) (s : Int) :
    RowP (w.setCell ⟨g, j * 6 + 4, none⟩ (.int .i64 s)) B (.slice (some ⟨g, 0, none⟩) q c) q (updP L j (setC (L j) s)) := by
  have := h.stored (j * 6 + 4) (.int .i64 s)
  rw [encP_setC] at this
  exact this.1
theorem upd_mid (LA : List Par) (x y : Par) (LC : List Par) {i : Nat} (hi : i < (LA ++ x :: LC).length) : updP (lf (LA ++ x :: LC)) LA.length y i = lf (LA ++ y :: LC) i := by
  by_cases e : i = LA.length
  · subst e; rw [updP_same, lf_mid]
  · rw [updP_ne _ _ e]
    by_cases c : i < LA.length
    · rw [lf_left _ _ c, lf_left _ _ c]
    · obtain ⟨d, rfl⟩ : ∃ d, i = LA.length + (d + 1) := ⟨i - LA.length - 1, by omega⟩
      have hd : d < LC.length := by simp at hi; omega
      rw [lf_right _ _ (by simp; omega), lf_right _ _ (by simp; omega), lf_at _ (by simp; omega), lf_at _ (by simp; omega)]; rfl
theorem RowL.putC {w : World} {B g n c p : Nat} {LA LC : List Par} {x : Par} (h : RowL w B (.slice (some ⟨g, 0, none⟩) n c) (LA ++ x :: LC)) (hn : n = (LA ++ x :: LC).length) (hp : LA.length = p) (a : Int) : RowL (w.setCell ⟨g, p * 6 + 4, none⟩ (.int .i64 a)) B (.slice (some ⟨g, 0, none⟩) n c) (LA ++ setC x a :: LC) := by
  subst hn hp
  have h1 := RowP.putC h LA.length a
  rw [lf_mid] at h1
  have h2 := h1.congr (fun i hi => upd_mid LA x (setC x a) LC hi)
  have e : (LA ++ setC x a :: LC).length = (LA ++ x :: LC).length := by simp
  show RowP _ B _ (LA ++ setC x a :: LC).length _
  rw [e]; exact h2
theorem RowL.putS {w : World} {B g n c p : Nat} {LA LC : List Par} {x : Par} (h : RowL w B (.slice (some ⟨g, 0, none⟩) n c) (LA ++ x :: LC)) (hn : n = (LA ++ x :: LC).length) (hp : LA.length = p) (a : Int) : RowL (w.setCell ⟨g, p * 6 + 5, none⟩ (.int .i64 a)) B (.slice (some ⟨g, 0, none⟩) n c) (LA ++ setS x a :: LC) := by
  subst hn hp
  have h1 := RowP.putS h LA.length a
  rw [lf_mid] at h1
  have h2 := h1.congr (fun i hi => upd_mid LA x (setS x a) LC hi)
  have e : (LA ++ setS x a :: LC).length = (LA ++ x :: LC).length := by simp
  show RowP _ B _ (LA ++ setS x a :: LC).length _
  rw [e]; exact h2
theorem TK.poke {B : Nat} {tl ll ll' : List Par} {tv : Value} {g n c : Nat} {w wr : World} (h : TK B tl ll tv (.slice (some ⟨g, 0, none⟩) n c) w wr) {j : Nat} {u : Value} (hr : RowL (wr.setCell ⟨g, j, none⟩ u) B (.slice (some ⟨g, 0, none⟩) n c) ll') : TK B tl ll' tv (.slice (some ⟨g, 0, none⟩) n c) w (wr.setCell ⟨g, j, none⟩ u) := by
  have hT : Tn g wr (wr.setCell ⟨g, j, none⟩ u) := (Tn.refl g wr).put _
  have hg := (h.l.lt g rfl).1
  refine ⟨row_other (a := ⟨g, j, none⟩) h.t (fun e => h.ne _ e rfl) u, hr, h.ne, h.below.trans (hT.below hg h.size), Nat.le_trans h.size hT.size⟩
theorem RowL.mid {w : World} {B g n c p : Nat} {LA LC : List Par} {x : Par} (h : RowL w B (.slice (some ⟨g, 0, none⟩) n c) (LA ++ x :: LC)) (hn : n = (LA ++ x :: LC).length) (hp : LA.length = p) :
    w.cell? ⟨g, p * 6, none⟩ = some (.int .i64 x.k) ∧ w.cell? ⟨g, p * 6 + 1, none⟩ = some (.int .i64 x.f) ∧ w.cell? ⟨g, p * 6 + 2, none⟩ = some (.int .i64 x.t) ∧ w.cell? ⟨g, p * 6 + 3, none⟩ = some (.int .i64 x.a) ∧ w.cell? ⟨g, p * 6 + 4, none⟩ = some (.int .i64 x.c) ∧ w.cell? ⟨g, p * 6 + 5, none⟩ = some (.int .i64 x.s) := by
  subst hn hp
  have := RowP.cell h (i := LA.length) (by simp)
  rw [lf_mid] at this
  exact this
set_option maxRecDepth 100000 in
set_option maxHeartbeats 12800000 in
theorem cut_any (po : Option Addr) (n qc : Nat) (P : Nat → Par) (k u : Int) (q : Nat) (σ : Nat → Nat) (hL : Load n P) (hS : Sg n P k q σ) (hu : 0 ≤ u) (hu2 : u ≤ 9223372036854775807) (w : World) (hP : Pars w po n P) :
    Calls Try.prog 54 #[.slice po n qc, .int .i64 k, .int .i64 u] w fun e w' => ∃ ta nt tc la nl lc, e = .returned (.tuple #[.slice ta nt tc, .slice la nl lc]) ∧ nt = (tkn P (cS P σ u q) n).length ∧ nl = (lft P (cS P σ u q) n).length ∧ (nt = 0 → ta = none) ∧ TK w.heap.size (tkn P (cS P σ u q) n) (lft P (cS P σ u q) n) (.slice ta nt tc) (.slice la nl lc) w w' := by
  have hle := hL.le
  have HL := hid hL
  have HSG := hid hS
  have HU := hid (And.intro hu hu2)
  have HP := hid hP
  have HN5 : Hid (n ≤ 100000) := hid (by omega)
  obtain ⟨B, hB⟩ : ∃ B, w.heap.size = B := ⟨_, rfl⟩
  have HBW := hid hB
  obtain ⟨i0, hi, hz0, hz1, hz2⟩ := info_parts infoP
  have HIP := hid (And.intro hi (And.intro hz0 (And.intro hz1 hz2)))
  rw [hB]
  clear hL hS hP hB hu hu2 hi hz0 hz1 hz2
  go_enter Try.func54, Try.ntmps54
  go_wp2_with (at_builtin; refine wpList_append_fresh w rfl _ _ rfl rfl rfl po n qc P rfl HP.out HN5.out ?_; intro vo c w1 hrow hb1; have HROW := hid hrow; have HB1 := hid hb1; clear hrow hb1)
  have HT0 : Hid (TK B (tkn P (cS P σ u 0) n) (lft P (cS P σ u 0) n) (.slice none 0 0) (.slice vo n c) w w1) := hid (by
    have h0 := lft_zero HL.out n (Nat.le_refl _)
    have h1 := HROW.out
    have h2 := HB1.out
    rw [HBW.out] at h1 h2
    refine ⟨by show RowL w1 B _ (tkn P (fun _ => 0) n); rw [h0.1]; exact World.ownsRow_nil _ _ _ _, ?_, fun k hk => by simp [Value.ownBlock] at hk, h2, by have := h2.size; have := HBW.out; omega⟩
    show w1.ownsRow B _ 6 _ (lft P (fun _ => 0) n).length (encP (lft P (fun _ => 0) n).length (lf (lft P (fun _ => 0) n)))
    rw [h0.2.1, encP_congr h0.2.2]
    exact h1)
  have HTN : Hid ((tkn P (cS P σ u 0) n).length = 0 ∧ (lft P (cS P σ u 0) n).length = n) := hid (by have h0 := lft_zero HL.out n (Nat.le_refl _); exact ⟨by show (tkn P (fun _ => 0) n).length = 0; rw [h0.1]; rfl, h0.2.1⟩)
  clear HROW HB1
  go_wp2_with fail
  go_loopw [2, 6, 7] (fun nv tv lv wr => ∃ (j : Nat) (v : Int) (ta : Option Addr) (nt tc : Nat) (la : Option Addr) (nl lc : Nat), j ≤ q ∧ nv = .int .i64 v ∧ tv = .slice ta nt tc ∧ lv = .slice la nl lc ∧ Hid (v = uS P σ u j ∧ nt = (tkn P (cS P σ u j) n).length ∧ nl = (lft P (cS P σ u j) n).length ∧ (nt = 0 → ta = none) ∧ TK B (tkn P (cS P σ u j) n) (lft P (cS P σ u j) n) tv lv w wr)) (fun nv _ _ _ => (intOf nv).toNat)
  case atStart => exact ⟨0, u, none, 0, 0, vo, n, c, Nat.zero_le _, rfl, rfl, rfl, hid ⟨rfl, HTN.out.1.symm, HTN.out.2.symm, fun _ => rfl, HT0.out⟩⟩
  case round =>
    clear HT0 HTN
    obtain ⟨j, v, ta, nt, tc, la, nl, lc, hj, rfl, rfl, rfl, HS⟩ := hrel
    have hvb := uS_bd HL.out HSG.out HU.out.1 j hj
    rw [← HS.out.1] at hvb
    have hu2 := HU.out.2
    by_cases hv0 : 0 < v
    · obtain ⟨LL, hLL⟩ : ∃ LL, lft P (cS P σ u j) n = LL := ⟨_, rfl⟩
      have HLL := hid hLL
      have hnl : nl ≤ 200 := by rw [HS.out.2.2.1]; have : (lft P (cS P σ u j) n).length ≤ n := seg_len (fL_len P (cS P σ u j)) n; omega
      have HS' := HS.out
      rw [hLL] at HS'
      have HS2 := hid HS'
      clear HS' HS hLL
      go_wp2_with fail
      go_loopw [8, 9] (fun bv iv wi => ∃ i : Nat, ∃ b : Int, i ≤ nl ∧ iv = .int .i64 i ∧ bv = .int .i64 b ∧ Hid (b = bst (lf LL) k i ∧ TK B (tkn P (cS P σ u j) n) LL (.slice ta nt tc) (.slice la nl lc) w wi)) (fun _ iv _ => nl - (intOf iv).toNat)
      case atStart => exact ⟨0, -1, Nat.zero_le _, rfl, rfl, hid ⟨rfl, HS2.out.2.2.2.2⟩⟩
      case round =>
        obtain ⟨i, b, hi, rfl, rfl, HI⟩ := hrel
        by_cases hlt : i < nl
        · have hrow := HI.out.2.l
          have hll := HS2.out.2.2.1
          obtain ⟨g, cap, e, _, hgl⟩ := hrow.form (by omega)
          obtain rfl : la = some ⟨g, 0, none⟩ := by injection e
          have hrow2 : RowP wr B (.slice (some ⟨g, 0, none⟩) nl lc) nl (lf LL) := by have h : RowP wr B (.slice (some ⟨g, 0, none⟩) nl lc) LL.length (lf LL) := hrow; rw [← hll] at h; exact h
          obtain ⟨c0, c1, c2, c3, c4, c5⟩ := RowP.cell hrow2 hlt
          have hbb := bst_bd (lf LL) k i
          have hsu := bst_succ (lf LL) k i
          rw [← HI.out.1] at hbb hsu
          have hlt2 : (i : Int) < (nl : Int) := by omega
          have i00 : (0 : Int) ≤ (i : Int) := by omega
          have wi1 : IntKind.i64.wrap ((i : Int) + 1) = ((i + 1 : Nat) : Int) := by rw [IntKind.wrap_i64]; omega
          have HTI := hid HI.out.2
          have hfin : ∀ d b', b' = bst (lf LL) k (i + 1) → b' = bst (lf LL) k (i + 1) ∧ TK B (tkn P (cS P σ u j) n) LL (.slice ta nt tc) (.slice (some ⟨g, 0, none⟩) nl lc) w (World.drewN wr d) := fun d b' h => ⟨h, HTI.out.stays (Joins.below_draws _ _ _)⟩
          have HFIN := hid hfin
          have hrow3 := hrow2
          clear hfin hrow hrow2 hll HI HS2 e
          by_cases hk : (lf LL i).k = k
          · by_cases hb0 : b < 0
            · rw [if_pos ⟨hk, .inl hb0⟩] at hsu
              have HSU := hid hsu
              generalize (lf LL i).k = x0 at c0 hk
              generalize (lf LL i).a = x3 at c3
              have hk' := hk.symm
              subst hk'
              clear hsu hbb c1 c2 c4 c5
              go_upto_region 7 with fail
              go_quiet (fail)
              go_wp2_with fail
              go_roundw
              case rel => exact ⟨i + 1, i, by omega, by go_num, rfl, hid (HFIN.out _ _ HSU.out.symm)⟩
              case measure => simp [intOf]; omega
            · obtain ⟨bn, hbn⟩ : ∃ bn : Nat, b = bn := ⟨b.toNat, by omega⟩
              subst hbn
              have hbl : bn < nl := by omega
              obtain ⟨d0, d1, d2, d3, d4, d5⟩ := RowP.cell hrow3 hbl
              rw [Int.toNat_natCast] at hsu
              have b00 : (0 : Int) ≤ (bn : Int) := by omega
              have hbl2 : (bn : Int) < (nl : Int) := by omega
              by_cases hga : (lf LL bn).a < (lf LL i).a
              · rw [if_pos ⟨hk, .inr hga⟩] at hsu
                have HSU := hid hsu
                generalize (lf LL i).k = x0 at c0 hk
                generalize (lf LL i).a = x3 at c3 hga
                generalize (lf LL bn).a = x4 at d3 hga
                have hk' := hk.symm
                subst hk'
                clear hsu hbb c1 c2 c4 c5 d0 d1 d2 d4 d5
                go_upto_region 7 with fail
                go_quiet (fail)
                go_wp2_with fail
                go_roundw
                case rel => exact ⟨i + 1, i, by omega, by go_num, rfl, hid (HFIN.out _ _ HSU.out.symm)⟩
                case measure => simp [intOf]; omega
              · rw [if_neg (by rintro ⟨_, c | c⟩; { exact hb0 c }; { exact hga c })] at hsu
                have HSU := hid hsu
                generalize (lf LL i).k = x0 at c0 hk
                generalize (lf LL i).a = x3 at c3 hga
                generalize (lf LL bn).a = x4 at d3 hga
                have hk' := hk.symm
                subst hk'
                clear hsu hbb c1 c2 c4 c5 d0 d1 d2 d4 d5
                go_upto_region 7 with fail
                go_quiet (fail)
                go_wp2_with fail
                go_roundw
                case rel => exact ⟨i + 1, bn, by omega, by go_num, rfl, hid (HFIN.out _ _ HSU.out.symm)⟩
                case measure => simp [intOf]; omega
          · rw [if_neg (fun c => hk c.1)] at hsu
            have HSU := hid hsu
            generalize (lf LL i).k = x0 at c0 hk
            have hk2 : (x0 == k) = false := by simpa using hk
            clear hsu hbb c1 c2 c3 c4 c5
            go_upto_region 7 with fail
            go_quiet (fail)
            go_wp2_with fail
            go_roundw
            case rel => exact ⟨i + 1, b, by omega, by go_num, rfl, hid (HFIN.out _ _ HSU.out.symm)⟩
            case measure => simp [intOf]; omega
        · obtain rfl : nl = i := by omega
          have HI2 := hid HI.out.2
          by_cases hjq : j < q
          · have hkx := (HSG.out.lt j hjq).2
            have hok := HL.out.ok _ (HSG.out.lt j hjq).1
            have hx1 := hok.c1
            have hx2 := hok.c2
            obtain ⟨x, hx⟩ : ∃ x, P (σ j) = x := ⟨_, rfl⟩
            obtain ⟨m, hm⟩ : ∃ m, min v x.c = m := ⟨_, rfl⟩
            obtain ⟨TA, TC, LA, LC, e1, e2, e3, e4, e5, e6, e7, e8⟩ := step_lists HL.out HSG.out hjq (by rw [← HS2.out.1]; exact hv0) (v := m) (by rw [← HS2.out.1, hx]; exact hm)
            have hus : uS P σ u (j + 1) = v - m := by show uS P σ u j - min (uS P σ u j) (P (σ j)).c = _; rw [← HS2.out.1, hx, hm]
            rw [HLL.out] at e3
            rw [hx] at e2 e3 e4 e5 e6 e7 e8 hkx hok hx1 hx2
            obtain ⟨p, hp⟩ : ∃ p, LA.length = p := ⟨_, rfl⟩
            have hll : nl = (LA ++ x :: LC).length := by rw [← e3]; exact HS2.out.2.2.1
            have hb := HI.out.1
            rw [e3, mid_bst LA x LC k hkx e7 e8 hll, hp] at hb
            subst hb
            have hpl : nl = p + (LC.length + 1) := by rw [hll, ← hp]; simp
            have hpn : p < nl := by omega
            have hrow := HI2.out.l
            obtain ⟨g, cap, e, _, hgl⟩ := hrow.form (by rw [e3, List.length_append, List.length_cons]; omega)
            obtain rfl : la = some ⟨g, 0, none⟩ := by injection e
            have hrow2 : RowP wr B (.slice (some ⟨g, 0, none⟩) nl lc) nl (lf LL) := by have h : RowP wr B (.slice (some ⟨g, 0, none⟩) nl lc) LL.length (lf LL) := hrow; rw [← HS2.out.2.2.1] at h; exact h
            obtain ⟨c0, c1, c2, c3, c4, c5⟩ := RowP.cell hrow2 hpn
            have hlx : lf LL p = x := by rw [e3, ← hp]; exact lf_mid LA x LC
            rw [hlx] at c0 c1 c2 c3 c4 c5
            have hcap := row_cap hrow2
            have p00 : ¬ (p : Int) < 0 := by omega
            have p01 : (0 : Int) ≤ (p : Int) := by omega
            have hpn2 : (p : Int) < (nl : Int) := by omega
            have HTA := hid (And.intro e1 (And.intro e5 e6))
            have HTE := hid (And.intro e2 e4)
            have HLE := hid (And.intro e3 (And.intro hp hll))
            have HOK := hid hok
            have HUS := hid hus
            have HPL := hid hpl
            obtain ⟨X, hX⟩ : ∃ X, wr.heap.size = X := ⟨_, rfl⟩
            have HXR := hid hX
            have HBX : Hid ((wr.alloc (.cells #[.int .i64 x.k, .int .i64 x.f, .int .i64 x.t, .int .i64 x.a, .int .i64 x.c, .int .i64 x.s] 36)).heap[X]? = some (.cells #[.int .i64 x.k, .int .i64 x.f, .int .i64 x.t, .int .i64 x.a, .int .i64 x.c, .int .i64 x.s] 36 (0, 0))) := hid (by rw [← hX]; exact heap_new _ _)
            have HT3 := hid (HI2.out.stays ((Below.refl _ wr).alloc (Nat.le_refl _) (.cells #[.int .i64 x.k, .int .i64 x.f, .int .i64 x.t, .int .i64 x.a, .int .i64 x.c, .int .i64 x.s] 36)))
            clear hpl e1 e2 e3 e4 e5 e6 e7 e8 hp hll hok hus hkx hlx hrow hrow2 e hgl HI HI2
            go_upto_region 12 with fail
            clear hX c0 c1 c2 c3 c4 c5 p00 hpn2
            generalize World.alloc _ _ = w3 at HBX HT3 ⊢
            have x0 : w3.cell? ⟨X, 0, none⟩ = some (.int .i64 x.k) := cell_of_row _ _ 0 _ _ _ HBX.out
            have x1 : w3.cell? ⟨X, 1, none⟩ = some (.int .i64 x.f) := cell_of_row _ _ 1 _ _ _ HBX.out
            have x2 : w3.cell? ⟨X, 2, none⟩ = some (.int .i64 x.t) := cell_of_row _ _ 2 _ _ _ HBX.out
            have x3 : w3.cell? ⟨X, 3, none⟩ = some (.int .i64 x.a) := cell_of_row _ _ 3 _ _ _ HBX.out
            have x4 : w3.cell? ⟨X, 4, none⟩ = some (.int .i64 x.c) := cell_of_row _ _ 4 _ _ _ HBX.out
            have x5 : w3.cell? ⟨X, 5, none⟩ = some (.int .i64 x.s) := cell_of_row _ _ 5 _ _ _ HBX.out
            have hXl := heap_lt HBX.out
            have HNT : Hid (nt = (TA ++ TC).length) := hid (by rw [← HTA.out.1]; exact HS2.out.2.1)
            by_cases hcv : x.c ≤ v
            · have hmx : m = x.c := by omega
              subst hmx
              have hpx := prt_all HOK.out
              obtain ⟨TN, hTN⟩ : ∃ TN, TA ++ x :: TC = TN := ⟨_, rfl⟩
              have HTN := hid hTN
              have HPU : Hid (Calls Try.prog 57 #[.slice ta nt tc, pv x] w3 fun e w' => ∃ vo c, e = .returned (.slice vo TN.length c) ∧ RowL w' w3.heap.size (.slice vo TN.length c) TN ∧ Below w3.heap.size w3 w') := hid (by
                have ht := HT3.out.t
                rw [HTA.out.1] at ht
                have hz := HNT.out
                have hpp : Pars w3 ta (TA ++ TC).length (lf (TA ++ TC)) := by
                  have h : RowP w3 B (.slice ta nt tc) (TA ++ TC).length (lf (TA ++ TC)) := ht
                  rw [hz] at h; exact h.pars
                have := put_any TA TC x (by have := HTA.out.2.1; rw [hpx] at this; exact this) (by have := HTA.out.2.2; rw [hpx] at this; exact this) (by rw [← HTA.out.1]; have : (tkn P (cS P σ u j) n).length ≤ n := seg_len (fT_len P (cS P σ u j)) n; omega) ta tc (by have h : RowP w3 B (.slice ta nt tc) (TA ++ TC).length (lf (TA ++ TC)) := ht; have := row_cap h; omega) (fun e => by
                  subst e
                  rcases ht.2 with ⟨e, _⟩ | ⟨_, _, _, e, _⟩
                  · injection e
                  · injection e with e; cases e) (fun e => HS2.out.2.2.2.1 (by omega)) w3 hpp
                rw [← hz, hTN] at this
                exact this)
              have wv : IntKind.i64.wrap (v - x.c) = v - x.c := by rw [IntKind.wrap_i64]; omega
              have wp1 : IntKind.i64.wrap ((p : Int) + 1) = ((p + 1 : Nat) : Int) := by rw [IntKind.wrap_i64]; omega
              have HN2 : Hid (p ≤ 100000) := hid (by omega)
              clear hTN hpx
              go_wp2_with (first
                | (go_at_call 57; refine HPU.out.mono ?_; rintro e w4 ⟨vt, ct, rfl, hrow4, hb4⟩; have HT4 := hid (HT3.out.put hb4 hrow4); have y4 : w4.cell? ⟨X, 4, none⟩ = some (.int .i64 x.c) := (hb4.cell (p := ⟨X, 4, none⟩) hXl).trans x4; have HW3 : Hid (w3.heap.size ≤ w4.heap.size) := hid hb4.size; have HLA : Hid (Pars w4 (some ⟨g, 0, none⟩) p (lf LA)) := hid (by
                    have h := HT4.out.l
                    rw [HLE.out.1] at h
                    have h2 : RowP w4 B (.slice (some ⟨g, 0, none⟩) nl lc) (LA ++ x :: LC).length (lf (LA ++ x :: LC)) := h
                    rw [HLE.out.2.2] at h2
                    have h3 := h2.pars.left
                    rw [HLE.out.2.1] at h3
                    exact h3); clear x0 x1 x2 x3 x4 x5 hrow4 hb4 HPU HT3)
                | (at_builtin; refine wpList_append_fresh w4 rfl _ _ rfl rfl rfl (some ⟨g, 0, none⟩) p lc (lf LA) rfl HLA.out HN2.out ?_; intro vr cr w5 hrow5 hb5; have HB5 := hid hb5; have HR5 : Hid (RowL w5 w4.heap.size (.slice vr p cr) LA) := hid (by have h := hrow5; rw [← HLE.out.2.1] at h; have h2 : RowL w5 w4.heap.size (.slice vr LA.length cr) LA := h; rw [HLE.out.2.1] at h2; exact h2); have HT5 := hid (HT4.out.stays hb5); have HLC : Hid (Pars w5 (some ⟨g, (p + 1) * 6, none⟩) (nl - (p + 1)) (lf LC)) := hid (by
                    have h := HT5.out.l
                    rw [HLE.out.1] at h
                    have h2 : RowP w5 B (.slice (some ⟨g, 0, none⟩) nl lc) (LA ++ x :: LC).length (lf (LA ++ x :: LC)) := h
                    rw [HLE.out.2.2] at h2
                    have h3 : Pars w5 (some ⟨g, 0 + LA.length * 6, none⟩) ([x] ++ LC).length (lf ([x] ++ LC)) := h2.pars.right
                    have h4 := h3.right
                    rw [HLE.out.2.1, show 0 + p * 6 + [x].length * 6 = (p + 1) * 6 by simp; omega, show LC.length = nl - (p + 1) by have := HPL.out; omega] at h4
                    exact h4); clear hrow5 hb5 HLA)
                | (at_builtin; go_loud (refine wpList_append_list' w5 rfl _ _ rfl rfl w4.heap.size LA LC p (nl - (p + 1)) HLE.out.2.1 (by have := HPL.out; omega) vr cr rfl HR5.out _ _ rfl (by first | exact HLC.out | (split; { exact fun j hj => absurd hj (by omega) }; { exact HLC.out })) (by have := HN2.out; have := HPL.out; omega) HB5.out.size ?_); go_loud (intro vo6 c6 w6 hrow6 hgrow6; have HB6 := hid (HB5.out.grown hgrow6 HB5.out.size (fun k hk => (HR5.out.lt k hk).1)); have HT6 := hid (HT4.out.swap.put HB6.out hrow6).swap; clear hrow6 hgrow6 HT5 HB5 HR5 HLC HB6 HT4)))
              all_goals
                go_wp2_with fail
                go_roundw
                case rel =>
                  refine ⟨j + 1, v - x.c, vt, TN.length, ct, vo6, p + (nl - (p + 1)), c6, by omega, rfl, rfl, rfl, hid ⟨HUS.out.symm, ?_, ?_, ?_, ?_⟩⟩
                  · rw [HTE.out.1, prt_all HOK.out, HTN.out]
                  · rw [HTE.out.2, if_neg (by omega), List.nil_append, List.length_append]; have := HLE.out.2.1; have := HPL.out; omega
                  · intro h; rw [← HTN.out, List.length_append, List.length_cons] at h; omega
                  · rw [HTE.out.1, prt_all HOK.out, HTN.out, HTE.out.2, if_neg (by omega), List.nil_append]; exact HT6.out
                case measure => simp [intOf]; omega
            · obtain rfl : v = m := by omega
              have hpb := part_bd HOK.out (m := v) (by omega) (by omega)
              obtain ⟨z, hz⟩ : ∃ z, x.s * v = z := ⟨_, rfl⟩
              rw [hz] at hpb
              obtain ⟨gs, hgs⟩ : ∃ gs, z / x.c = gs := ⟨_, rfl⟩
              rw [hgs] at hpb
              have e1 : IntKind.i64.wrap (x.s * v) = z := by rw [hz, IntKind.wrap_i64]; omega
              have hs2 := HOK.out.s2
              have e2 : IntKind.i64.wrap (Int.tdiv z x.c) = gs := by rw [Int.tdiv_eq_ediv_of_nonneg hpb.1, hgs, IntKind.wrap_i64]; omega
              have HMD := hid (fun W => muldivc_any x.s v x.c gs hx1 z e1 e2 W)
              have HPT : Hid (prt x v = ⟨x.k, x.f, x.t, x.a, v, gs⟩) := hid (by unfold prt; rw [hz, hgs])
              have HRT : Hid (rst x v = setS (setC x (x.c - v)) (x.s - gs)) := hid (by unfold rst; rw [hz, hgs]; rfl)
              obtain ⟨TN, hTN⟩ : ∃ TN, TA ++ ⟨x.k, x.f, x.t, x.a, v, gs⟩ :: TC = TN := ⟨_, rfl⟩
              have HTN := hid hTN
              have HPU : Hid (∀ W, Below w3.heap.size w3 W → Calls Try.prog 57 #[.slice ta nt tc, pv ⟨x.k, x.f, x.t, x.a, v, gs⟩] W fun e w' => ∃ vo c, e = .returned (.slice vo TN.length c) ∧ RowL w' W.heap.size (.slice vo TN.length c) TN ∧ Below W.heap.size W w') := hid (fun W hW => by
                have ht := (HT3.out.stays hW).t
                rw [HTA.out.1] at ht
                have hz := HNT.out
                have hpp : Pars W ta (TA ++ TC).length (lf (TA ++ TC)) := by
                  have h : RowP W B (.slice ta nt tc) (TA ++ TC).length (lf (TA ++ TC)) := ht
                  rw [hz] at h; exact h.pars
                have := put_any TA TC ⟨x.k, x.f, x.t, x.a, v, gs⟩ (by have := HTA.out.2.1; rw [HPT.out] at this; exact this) (by have := HTA.out.2.2; rw [HPT.out] at this; exact this) (by rw [← HTA.out.1]; have : (tkn P (cS P σ u j) n).length ≤ n := seg_len (fT_len P (cS P σ u j)) n; omega) ta tc (by have h : RowP W B (.slice ta nt tc) (TA ++ TC).length (lf (TA ++ TC)) := ht; have := row_cap h; omega) (fun e => by
                  subst e
                  rcases ht.2 with ⟨e, _⟩ | ⟨_, _, _, e, _⟩
                  · injection e
                  · injection e with e; cases e) (fun e => HS2.out.2.2.2.1 (by omega)) W hpp
                rw [← hz, hTN] at this
                exact this)
              have ws1 : IntKind.i64.wrap (x.c - v) = x.c - v := by rw [IntKind.wrap_i64]; omega
              have ws2 : IntKind.i64.wrap (x.s - gs) = x.s - gs := by rw [IntKind.wrap_i64]; omega
              have HCV := hid hcv
              clear hTN hz hgs hpb e1 e2
              obtain ⟨Y, hY⟩ : ∃ Y, w3.heap.size = Y := ⟨_, rfl⟩
              have HY := hid (heap_new w3 (.cells #[.int .i64 x.k, .int .i64 x.f, .int .i64 x.t, .int .i64 x.a, .int .i64 v, .int .i64 gs] 36))
              have HB4 := hid ((Below.refl w3.heap.size w3).alloc (Nat.le_refl _) (.cells #[.int .i64 x.k, .int .i64 x.f, .int .i64 x.t, .int .i64 x.a, .int .i64 v, .int .i64 gs] 36))
              have q4 : (w3.alloc (.cells #[.int .i64 x.k, .int .i64 x.f, .int .i64 x.t, .int .i64 x.a, .int .i64 v, .int .i64 x.s] 36)).cell? ⟨X, 4, none⟩ = some (.int .i64 x.c) := (((Below.refl w3.heap.size w3).alloc (Nat.le_refl _) _).cell (p := ⟨X, 4, none⟩) hXl).trans x4
              have q5 : (w3.alloc (.cells #[.int .i64 x.k, .int .i64 x.f, .int .i64 x.t, .int .i64 x.a, .int .i64 v, .int .i64 x.s] 36)).cell? ⟨X, 5, none⟩ = some (.int .i64 x.s) := (((Below.refl w3.heap.size w3).alloc (Nat.le_refl _) _).cell (p := ⟨X, 5, none⟩) hXl).trans x5
              rw [hY] at HY
              have HYW := hid hY
              go_upto_region 21 with (go_at_call 78; refine (HMD.out _).mono ?_; rintro e w' ⟨rfl, rfl⟩)
              clear hY x0 x1 x2 x3 x4 x5 q4 q5
              generalize World.alloc _ _ = w4 at HY HB4 ⊢
              have y0 : w4.cell? ⟨Y, 0, none⟩ = some (.int .i64 x.k) := cell_of_row _ _ 0 _ _ _ HY.out
              have y1 : w4.cell? ⟨Y, 1, none⟩ = some (.int .i64 x.f) := cell_of_row _ _ 1 _ _ _ HY.out
              have y2 : w4.cell? ⟨Y, 2, none⟩ = some (.int .i64 x.t) := cell_of_row _ _ 2 _ _ _ HY.out
              have y3 : w4.cell? ⟨Y, 3, none⟩ = some (.int .i64 x.a) := cell_of_row _ _ 3 _ _ _ HY.out
              have y4 : w4.cell? ⟨Y, 4, none⟩ = some (.int .i64 v) := cell_of_row _ _ 4 _ _ _ HY.out
              have y5 : w4.cell? ⟨Y, 5, none⟩ = some (.int .i64 gs) := cell_of_row _ _ 5 _ _ _ HY.out
              go_upto_region 22 with (go_at_call 57; go_loud (refine (HPU.out _ HB4.out).mono ?_); rintro e w6 ⟨vt, ct, rfl, hrow6, hb6⟩)
              have HT6 : Hid (TK B TN (LA ++ x :: LC) (.slice vt TN.length ct) (.slice (some ⟨g, 0, none⟩) nl lc) w w6) := hid (by have h := (HT3.out.stays HB4.out).put hb6 hrow6; rw [HLE.out.1] at h; exact h)
              have z5 : w6.cell? ⟨Y, 5, none⟩ = some (.int .i64 gs) := (hb6.cell (p := ⟨Y, 5, none⟩) (heap_lt HY.out)).trans y5
              have hgY : g ≠ Y := by
                have h1 := (HT3.out.l.lt g rfl).2
                have h2 := HYW.out
                omega
              clear y0 y1 y2 y3 y4 y5 hrow6 hb6 HPU HMD HT3
              obtain ⟨c0, c1, c2, c3, c4, c5⟩ := HT6.out.l.mid HLE.out.2.2 HLE.out.2.1
              have hrw6 : RowP w6 B (.slice (some ⟨g, 0, none⟩) nl lc) nl (lf (LA ++ x :: LC)) := by have h : RowP w6 B (.slice (some ⟨g, 0, none⟩) nl lc) (LA ++ x :: LC).length (lf (LA ++ x :: LC)) := HT6.out.l; rw [← HLE.out.2.2] at h; exact h
              have hfz := World.ownsRow.frozenAt hrw6
              clear hrw6
              have HR7 := hid (HT6.out.l.putC HLE.out.2.2 HLE.out.2.1 (x.c - v))
              have HT7 := hid (HT6.out.poke HR7.out)
              have z6 : (w6.setCell ⟨g, p * 6 + 4, none⟩ (.int .i64 (x.c - v))).cell? ⟨Y, 5, none⟩ = some (.int .i64 gs) := (((Tn.refl g w6).put _).cell (p := ⟨Y, 5, none⟩) (lt_of_cell z5) (fun e => hgY e.symm)).trans z5
              have HT7d := HT7
              have z7 := z6
              clear HR7 HT7 z6
              go_upto_region 23 with fail
              clear c0 c1 c2 c3 c4 c5 hfz z5 HT6
              generalize World.setCell _ _ _ = w7 at HT7d z7 ⊢
              have hl7 : nl = (LA ++ setC x (x.c - v) :: LC).length := by rw [HLE.out.2.2]; simp
              obtain ⟨c0, c1, c2, c3, c4, c5⟩ := HT7d.out.l.mid hl7 HLE.out.2.1
              have c5' : w7.cell? ⟨g, p * 6 + 5, none⟩ = some (.int .i64 x.s) := c5
              have hrw7 : RowP w7 B (.slice (some ⟨g, 0, none⟩) nl lc) nl (lf (LA ++ setC x (x.c - v) :: LC)) := by have h : RowP w7 B (.slice (some ⟨g, 0, none⟩) nl lc) (LA ++ setC x (x.c - v) :: LC).length (lf (LA ++ setC x (x.c - v) :: LC)) := HT7d.out.l; rw [← hl7] at h; exact h
              have hfz := World.ownsRow.frozenAt hrw7
              have HT8 := hid (HT7d.out.poke (HT7d.out.l.putS hl7 HLE.out.2.1 (x.s - gs)))
              clear c0 c1 c2 c3 c4 c5 hrw7 hl7
              go_region
              clear c5' hfz z7 HT7d
              go_wp2_with fail
              go_roundw
              case rel =>
                refine ⟨j + 1, 0, vt, TN.length, ct, _, nl, lc, by omega, by go_num, rfl, rfl, hid ⟨by rw [HUS.out]; omega, ?_, ?_, ?_, ?_⟩⟩
                · rw [HTE.out.1, HPT.out, HTN.out]
                · rw [HTE.out.2, if_pos (by have := HCV.out; omega), HLE.out.2.2]; simp
                · intro h; rw [← HTN.out, List.length_append, List.length_cons] at h; omega
                · rw [HTE.out.1, HPT.out, HTN.out, HTE.out.2, if_pos (by have := HCV.out; omega), HRT.out]; exact HT8.out.stays ((Below.refl _ _).drew)
              case measure => simp [intOf]; omega
          · obtain rfl : q = j := by omega
            have hb := HI.out.1
            rw [bst_none nl (fun y hy => by
              have hll := HS2.out.2.2.1
              rw [lf_at _ (by omega)]
              exact none_left HL.out HSG.out (by rw [← HS2.out.1]; exact hv0) _ (by rw [HLL.out]; exact List.getElem_mem _))] at hb
            subst hb
            go_wp2_with fail
            go_ret2
            exact ⟨ta, nt, tc, la, nl, lc, rfl, HS2.out.2.1, by rw [HLL.out]; exact HS2.out.2.2.1, HS2.out.2.2.2.1, by rw [HLL.out]; exact HI2.out⟩
    · have hv : v = 0 := by omega
      have hE := (cS_end (u := u) HSG.out (q - j) j (by omega) (by rw [← HS.out.1]; exact hv) (fun i hi => (HL.out.ok _ (HSG.out.lt i hi).1).c1)).2
      rw [show j + (q - j) = q by omega] at hE
      have HE := hid hE
      clear hE
      go_wp2_with fail
      go_ret2
      exact ⟨ta, nt, tc, la, nl, lc, rfl, by rw [HE.out]; exact HS.out.2.1, by rw [HE.out]; exact HS.out.2.2.1, HS.out.2.2.2.1, by rw [HE.out]; exact HS.out.2.2.2.2⟩
end Go.Proofs.Ytnfcibcpmaehoaa
