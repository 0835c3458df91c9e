/-
  The walks of Min and of block of the program's charts: the number of a piece's block.
-/
import Derived.Test.YtbfpcolkbfljoaaDoorBGat
namespace Go.Proofs.YtbfpcolkbfljoaaDoor
open Go.RowKit Go.Maps

set_option maxHeartbeats 3200000 in
theorem lmin_any (ao : Option Addr) (n cap : Nat) (F : Nat → Int) (v : Int) (hn : 0 < n) (hn2 : n ≤ 1000000) (h1 : ∀ j, j < n → v ≤ F j) (h2 : ∃ j, j < n ∧ F j = v) (w : World) (hI : Ints w ao n F) :
    Calls Tryd.prog 105 #[.slice ao n cap] w fun r w' => r = .returned (.int .i64 v) ∧ Below w.heap.size w w' := by
  obtain ⟨b, off, rfl, hbz, hc⟩ := hI.one hn
  have HC := hid hc
  have H1 := hid h1
  have H2 := hid h2
  have c0 := hc 0 hn
  have hn0 : (1 : Int) ≤ (n : Int) := by omega
  rw [Nat.add_zero] at c0
  clear hI h1 h2 hc
  go_enter Tryd.func105, Tryd.ntmps105
  go_wp2_with fail
  go_loopw [3, 4] (fun mv iv wr => ∃ (i : Nat) (m : Int), 1 ≤ i ∧ i ≤ n ∧ iv = .int .i64 i ∧ mv = .int .i64 m ∧ Hid ((∀ j, j < i → m ≤ F j) ∧ ∃ j, j < i ∧ F j = m) ∧ wr = w) (fun _ iv _ => n - (intOf iv).toNat)
  case atStart => exact ⟨1, F 0, Nat.le_refl _, by omega, rfl, rfl, hid ⟨fun j hj => by obtain rfl : j = 0 := (by omega); exact Int.le_refl _, 0, by omega, rfl⟩, rfl⟩
  case round =>
    obtain ⟨i, m, hi1, hi, rfl, rfl, HM, rfl⟩ := hrel
    by_cases hlt : i < n
    · have ci := HC.out i hlt
      obtain ⟨f, hf⟩ : ∃ f, f = F i := ⟨_, rfl⟩
      rw [← hf] at ci
      have HF := hid hf
      have hlt' : (i : Int) < (n : Int) := by omega
      have HN : Hid ((∀ j, j < i + 1 → min m f ≤ F j) ∧ ∃ j, j < i + 1 ∧ F j = min m f) := hid (by
        refine ⟨fun j hj => ?_, ?_⟩
        · by_cases e : j = i
          · subst e; rw [← hf]; omega
          · have := HM.out.1 j (by omega); omega
        · by_cases e : m ≤ f
          · obtain ⟨j, hj, e'⟩ := HM.out.2
            exact ⟨j, by omega, by omega⟩
          · exact ⟨i, by omega, by omega⟩)
      clear hf
      go_wp2_with fail
      exact ⟨⟨i + 1, if f < m then f else m, by omega, by omega, by go_num, rfl, hid (by rw [show (if f < m then f else m) = min m f by split <;> omega]; exact HN.out), trivial⟩, by simp [intOf]; omega⟩
    · obtain rfl : i = n := by omega
      have hm : Hid (m = v) := hid (by
        obtain ⟨j, hj, e⟩ := HM.out.2
        obtain ⟨k, hk, e'⟩ := H2.out
        have := H1.out j hj
        have := HM.out.1 k hk
        omega)
      go_wp2_with fail
      go_ret
      exact ⟨ret_int hm.out, Below.refl _ _⟩

/-- What a map of numbers of blocks says is right. -/
def Val (d : Rl) (C : Int → Int → Int → Bool) (b : Nat → Option Nat) : Prop := ∀ u v, b u = some v → Pl d u ∧ Blk d C u v
/-- What block hands back, and leaves in the map. -/
def BkIs (d : Rl) (C : Int → Int → Int → Bool) (M x v : Nat) (b : Nat → Option Nat) (w : World) (r : Ending) (w' : World) : Prop :=
  r = .returned (.int .i64 v) ∧ Kp M w w' ∧ ∃ b', MV vI M (8 * d.n) b' w' ∧ Val d C b' ∧ b' x = some v ∧ ∀ u z, b u = some z → b' u = some z

/-- The memory of block. -/
structure KS (d : Rl) (fv : Value) (M B : Nat) (b : Nat → Option Nat) (L : List Nat) (lst : Value) (w wr : World) : Prop where
  kp : Kp M w wr
  cb : CB d fv (.map (some M)) w.heap.size wr
  mv : MV vI M (8 * d.n) b wr
  row : wr.ownsRow B 3 1 lst L.length (encN L)
theorem KS.put {d : Rl} {fv : Value} {M B : Nat} {b b' : Nat → Option Nat} {L : List Nat} {lst : Value} {w wr w' : World} (h : KS d fv M B b L lst w wr) (hn : Ne d M) (hM : M < w.heap.size) (hB : M < B) (k : Kp M wr w') (hm : MV vI M (8 * d.n) b' w') : KS d fv M B b' L lst w w' :=
  ⟨h.kp.trans k, h.cb.kp hn (by omega) k, hm, row_kp h.row k hB⟩
theorem KS.stays {d : Rl} {fv : Value} {M B : Nat} {b : Nat → Option Nat} {L : List Nat} {lst : Value} {w wr w' : World} (h : KS d fv M B b L lst w wr) (k : Below wr.heap.size wr w') : KS d fv M B b L lst w w' :=
  ⟨h.kp.trans (Kp.of_below k), h.cb.stays k, h.mv.same (k.block M h.mv.lt), row_stays h.row k⟩

set_option maxRecDepth 20000 in
set_option maxHeartbeats 12800000 in
theorem block_any (d : Rl) (hg : Gd d) (M x v : Nat) (hx : Pl d x) (hv : Blk d (cutB d) x v) (hne : Ne d M) (b : Nat → Option Nat) (hb : Val d (cutB d) b) (w : World) (hH : Has d w) (hm : MV vI M (8 * d.n) b w) :
    Calls Tryd.prog 69 #[d.cht (.func (.func 79) #[d.ls] #[]) (.map (some M)), .int .i64 x] w (BkIs d (cutB d) M x v b w) := by
  have hsm := hg.small
  obtain ⟨fv, hfv⟩ : ∃ fv : Value, fv = .func (.func 79) #[d.ls] #[] := ⟨_, rfl⟩
  have HGA := hid (fun w hC => gather_any d hg (.map (some M)) x hx w hC)
  rw [← hfv] at HGA ⊢
  obtain ⟨S, hS⟩ : ∃ S, S = 8 * d.n := ⟨_, rfl⟩
  have hS2 : S ≤ 100000 := by omega
  have hx2 : x < S := by rw [hS]; exact hx.lt
  have hML := hm.lt
  have HSQ := hid hS
  have hB1 := Joins.below_alloc1 w (.cells #[.int .i64 d.W, .int .i64 d.H, d.as, d.bs, fv, .map (some M)] 101)
  have hCB := CB.start (fv := fv) (mp := .map (some M)) hH
  have hm1 := hm.same (hB1.block M hML)
  obtain ⟨z, hrun, hz1, hz2⟩ := hm1.look (t := x) (by rw [← hS]; exact hx2) (by rw [← hS]; exact hS2)
  have HV := hid (KS.mk (B := M + 1) (L := []) (lst := .slice none 0 0) (Kp.of_below hB1) hCB hm1 (by simpa [encN] using World.ownsRow_nil _ _ _ _))
  obtain ⟨q, hq⟩ : ∃ q, q = (b x).isSome := ⟨_, rfl⟩
  rw [← hq] at hrun
  have HQ := hid hq
  have HB := hid hb
  have HVV := hid hv
  have HG := hid hg
  have HX := hid hx
  have HNE := hid hne
  cases q
  · clear hz1 hz2 hq hb hv hH hm hm1 hCB hB1 hfv hsm hg hx hne
    go_enter Tryd.func69, Tryd.ntmps69
    go_upto_region 1 with fail
    generalize World.alloc w _ = wm at HV hrun ⊢
    have c0 := HV.out.cb.c0; have c1 := HV.out.cb.c1; have c2 := HV.out.cb.c2; have c3 := HV.out.cb.c3; have c4 := HV.out.cb.c4; have c5 := HV.out.cb.c5; have hz := HV.out.cb.size
    have HLEQ : Hid ((M : Nat) + 1 ≤ wm.heap.size) := hid (by have := HV.out.mv.lt; omega)
    go_wp2_with (first
      | (go_at_call 104; (refine (HGA.out _ HV.out.cb.has).mono ?_); rintro e w2 ⟨L, ⟨la, lc, rfl, hrow, hbw⟩, hL, hLl⟩; have HV2 := hid (KS.mk (B := M + 1) (L := L) ((HV.out.stays hbw).kp) ((HV.out.stays hbw).cb) ((HV.out.stays hbw).mv) (row_mono hrow HLEQ.out)); have HL := hid hL; have hLp : 0 < L.length := (by have := (hL x).2 (Con.refl x); cases L with | nil => cases this | cons a l => simp); clear hrow hbw hL c0 c1 c2 c3 c4 c5 hz HV)
      | (go_at_call 105; (refine (lmin_any _ _ _ _ (v : Int) hLp (by omega) (fun j hj => by have := HVV.out.2 _ ((HL.out _).1 (getD_memN hj)); omega) (by obtain ⟨j, hj, e⟩ := List.getElem_of_mem ((HL.out v).2 HVV.out.1); exact ⟨j, hj, by rw [List.getD_eq_getElem?_getD, List.getElem?_eq_getElem hj, Option.getD_some, e]⟩) _ (ints_of_row HV2.out.row rfl)).mono ?_); rintro e w3 ⟨rfl, hbw⟩; have HV3 := hid (HV2.out.stays hbw); clear hbw HV2))
    go_loopw [26] (fun iv wr => ∃ (k : Nat) (b' : Nat → Option Nat), k ≤ L.length ∧ iv = .int .i64 k ∧ Hid (Val d (cutB d) b' ∧ (∀ u, u ∈ L.take k → b' u = some v) ∧ ∀ u z, b u = some z → b' u = some z) ∧ Hid (KS d fv M (M + 1) b' L (.slice la L.length lc) w wr)) (fun iv _ => L.length - (intOf iv).toNat)
    case atStart => exact ⟨0, b, Nat.zero_le _, rfl, hid ⟨HB.out, fun u hu => by simp at hu, fun u z h => h⟩, HV3⟩
    case round =>
      clear HV3
      obtain ⟨k, b', hk, rfl, HB', HV⟩ := hrel
      by_cases hlt : k < L.length
      · obtain ⟨t, ht⟩ : ∃ t, t = L.getD k 0 := ⟨_, rfl⟩
        obtain ⟨g, goff, hla, hgz, hgc⟩ := ints_of_row HV.out.row rfl k hlt
        subst hla
        dsimp only at hgc
        rw [← ht] at hgc
        have htL : t ∈ L := by rw [ht]; exact getD_memN hlt
        have hcon := (HL.out t).1 htL
        have htP := hcon.pl HX.out
        have htS : t < S := by rw [HSQ.out]; exact htP.lt
        have htk : L.take (k + 1) = L.take k ++ [t] := by rw [take_snoc 0 hlt, ht]
        have c5 := HV.out.cb.c5
        have hz := HV.out.cb.size
        have hk' : (k : Int) < ((L.length : Nat) : Int) := by omega
        obtain ⟨w5, hrun5, hmv5, hkp5⟩ := HV.out.mv.put (t := t) (v := v) (by rw [← HSQ.out]; exact hS2) (by rw [← HSQ.out]; exact htS)
        have HV5 := hid (HV.out.put HNE.out hML (Nat.lt_succ_self _) hkp5 hmv5)
        have HB5 : Hid (Val d (cutB d) (updN b' t v) ∧ (∀ u, u ∈ L.take (k + 1) → updN b' t v u = some v) ∧ ∀ u z, b u = some z → updN b' t v u = some z) := hid (by
          have hvt := HVV.out.same HG.out HX.out hcon
          refine ⟨fun u z hu => ?_, fun u hu => ?_, fun u z hu => ?_⟩
          · by_cases e : u = t
            · subst e; rw [upd_same] at hu; cases hu; exact ⟨htP, hvt⟩
            · rw [upd_other _ _ e] at hu; exact HB'.out.1 u z hu
          · by_cases e : u = t
            · subst e; exact upd_same _ _ _
            · rw [upd_other _ _ e]
              rw [htk] at hu
              simp [e] at hu
              exact HB'.out.2.1 u hu
          · by_cases e : u = t
            · subst e; rw [upd_same, (HB.out u z hu).2.one hvt]
            · rw [upd_other _ _ e]; exact HB'.out.2.2 u z hu)
        clear hmv5 hkp5 htk htP hcon htL ht htS
        go_wp2_with fail
        exact ⟨⟨k + 1, _, by omega, by go_num, HB5, HV5⟩, by simp [intOf]; omega⟩
      · obtain rfl : k = L.length := by omega
        have HBX : Hid (b' x = some v) := hid (HB'.out.2.1 x (by rw [List.take_length]; exact (HL.out x).2 (Con.refl x)))
        go_wp2_with fail
        go_ret
        exact ⟨rfl, HV.out.kp, b', HV.out.mv, HB'.out.1, HBX.out, HB'.out.2.2⟩
  · obtain ⟨v0, hv0⟩ : ∃ v0, b x = some v0 := by
      have := HQ.out
      cases h : b x with
      | none => rw [h] at this; cases this
      | some v0 => exact ⟨v0, rfl⟩
    obtain rfl : v0 = v := (hb x v0 hv0).2.one hv
    obtain rfl := hz1 v0 hv0
    have HBX := hid hv0
    clear hz1 hz2 hq hb hv hH hm hm1 hCB hB1 hfv hsm hg hx hne hv0 HGA
    go_enter Tryd.func69, Tryd.ntmps69
    go_upto_region 1 with fail
    generalize World.alloc w _ = wm at HV hrun ⊢
    have c5 := HV.out.cb.c5; have hz := HV.out.cb.size
    go_wp2_with fail
    go_ret
    exact ⟨rfl, HV.out.kp, b, HV.out.mv, HB.out, HBX.out, fun u z h => h⟩
end Go.Proofs.YtbfpcolkbfljoaaDoor
