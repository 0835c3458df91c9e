/-
  The walk of beside of a chart: lists of numbers of the call's own.
-/
import Derived.Test.YtkpnngpnjimogaaWJoin
namespace Go.Proofs.Ytkpnngpnjimogaa
open Go.RowKit

/-- Numbers as cells. -/
def encN (L : List Nat) : List Value := L.map fun x : Nat => Value.int .i64 (x : Int)
theorem encN_length (L : List Nat) : (encN L).length = L.length := by simp [encN]
theorem encN_snoc (L : List Nat) (x : Nat) : encN (L ++ [x]) = encN L ++ [.int .i64 (x : Int)] := by simp [encN]
theorem encN_get (L : List Nat) {j : Nat} (h : j < L.length) : (encN L)[j]? = some (.int .i64 ((L.getD j 0 : Nat) : Int)) := by
  simp [encN, List.getElem?_eq_getElem h]
theorem row_slice {w : World} {B : Nat} {e : TypeId} {size n : Nat} {v : Value} {xs : List Value} (h : w.ownsRow B e size v n xs) : ∃ ao cap, v = .slice ao n cap := by
  rcases h.2 with ⟨rfl, rfl⟩ | ⟨g, cap, _, rfl, _⟩
  · exact ⟨none, 0, rfl⟩
  · exact ⟨_, _, rfl⟩
theorem ints_of_row {w : World} {B : Nat} {ao : Option Addr} {n cap : Nat} {L : List Nat} (h : w.ownsRow B 3 1 (.slice ao n cap) n (encN L)) (hn : n = L.length) : Ints w ao n (fun j => ((L.getD j 0 : Nat) : Int)) := fun j hj => by
  obtain ⟨g, c, e, _, _⟩ := h.form (by omega)
  cases e
  exact ⟨g, 0, rfl, (h.lt g rfl).2, by rw [Nat.zero_add, h.cellAt j (by omega), encN_get _ (by omega)]⟩
theorem row_kp {w w' : World} {M B : Nat} {e : TypeId} {size n : Nat} {v : Value} {xs : List Value} (h : w.ownsRow B e size v n xs) (k : Kp M w w') (hB : M < B) : w'.ownsRow B e size v n xs := by
  refine ⟨h.1, ?_⟩
  rcases h.2 with hn | ⟨g, cap, cur, rfl, hg0, hg, rest⟩
  · exact .inl hn
  · refine .inr ⟨g, cap, cur, rfl, hg0, ?_, rest⟩
    rw [k.block g (heap_lt hg) (by omega)]
    exact hg
theorem infoX : ∃ i, Try.prog.info? 3 = some i ∧ i.zero = some (.int .i64 0) ∧ i.size = 1 ∧ i.bytes = 8 := by
  have h := info3
  revert h
  cases Try.prog.info? 3 with
  | none => intro h; cases h
  | some i => intro h; simp at h; exact ⟨i, rfl, h.1, h.2.1, h.2.2⟩
/-- A list of numbers, in memory of the call's own. -/
def NL (d : Wat) (M : Nat) (L : List Nat) (w : World) (r : Ending) (w' : World) : Prop :=
  ∃ ao cap, r = .returned (.slice ao L.length cap) ∧ w'.ownsRow w.heap.size 3 1 (.slice ao L.length cap) L.length (encN L) ∧ Nx d M w w'

/-- The sides in the order in which what is beside a tile is ascending. -/
def sd : Nat → Nat
  | 0 => 3
  | 1 => 2
  | 2 => 0
  | _ => 1
theorem sd_le (k : Nat) : sd k ≤ 3 := by unfold sd; split <;> omega
def besK (W H : Nat) (Z K : Nat → Int) (t k : Nat) : List Nat := ((List.range k).filter fun i => joi W H Z K t (sd i)).map fun i => (bey W H t (sd i)).toNat
def bes (W H : Nat) (Z K : Nat → Int) (t : Nat) : List Nat := besK W H Z K t 4
theorem besK_yes {W H : Nat} {Z K : Nat → Int} {t k : Nat} (h : joi W H Z K t (sd k) = true) : besK W H Z K t (k + 1) = besK W H Z K t k ++ [(bey W H t (sd k)).toNat] := by
  unfold besK; rw [List.range_succ, List.filter_append]; simp [h]
theorem besK_no {W H : Nat} {Z K : Nat → Int} {t k : Nat} (h : joi W H Z K t (sd k) = false) : besK W H Z K t (k + 1) = besK W H Z K t k := by
  unfold besK; rw [List.range_succ, List.filter_append]; simp [h]
theorem besK_len (W H : Nat) (Z K : Nat → Int) (t k : Nat) : (besK W H Z K t k).length ≤ k := by
  unfold besK; rw [List.length_map]
  exact Nat.le_trans (List.length_filter_le _ _) (by simp)
theorem joi_bey {W H : Nat} {Z K : Nat → Int} {t : Nat} {s : Int} (h : joi W H Z K t s = true) : 0 ≤ bey W H t s := by
  unfold joi at h
  by_cases hb : bey W H t s < 0
  · rw [if_pos hb] at h; cases h
  · omega

/-- The memory of beside: the chart's box, the sides, the list. -/
structure BsS (d : Wat) (M : Nat) (L : List Nat) (lst : Value) (w wr : World) : Prop where
  cb : CB d M w wr
  sides : wr.heap[w.heap.size + 1]? = some (.cells #[.int .i64 3, .int .i64 2, .int .i64 0, .int .i64 1] 3 (0, 0))
  row : wr.ownsRow (w.heap.size + 2) 3 1 lst L.length (encN L)
theorem BsS.on {d : Wat} {M : Nat} {L : List Nat} {lst : Value} {w wr w' : World} (h : BsS d M L lst w wr) (k : Nx d M wr w') : BsS d M L lst w w' :=
  ⟨h.cb.on k, k.at h.cb.lt (by omega) h.sides, row_kp h.row k.kp (by have := h.cb.lt; omega)⟩
theorem BsS.app {d : Wat} {M x : Nat} {L : List Nat} {lst lst' : Value} {w wr w' : World} (h : BsS d M L lst w wr) (hr : w'.ownsRow (w.heap.size + 2) 3 1 lst' (L.length + 1) (encN L ++ [.int .i64 (x : Int)])) (o : Obj) (hg : (wr.alloc o).grownBy w' lst.ownBlock) (hC : Cx d M w) : BsS d M (L ++ [x]) lst' w w' := by
  have hz := heap_lt h.sides
  have ho : ∀ k, lst.ownBlock = some k → w.heap.size + 2 ≤ k := fun k hk => (h.row.lt k hk).1
  have hb : Below (w.heap.size + 2) wr w' := ((Below.refl _ wr).alloc (by omega) o).grown hg (by simp; omega) ho
  have hM := h.cb.lt
  have e : ∀ i, w'.cell? ⟨w.heap.size, i, none⟩ = wr.cell? ⟨w.heap.size, i, none⟩ := fun i => hb.cell (p := ⟨w.heap.size, i, none⟩) (show w.heap.size < w.heap.size + 2 by omega)
  have k : Nx d M w w' := ⟨⟨hb.os.trans h.cb.nx.kp.os, hb.tape.trans h.cb.nx.kp.tape, hb.output.trans h.cb.nx.kp.output, Nat.le_trans h.cb.nx.kp.size hb.size, fun k hk hn => (hb.block k (by omega)).trans (h.cb.nx.kp.block k hk hn)⟩, h.cb.cx.gs.same (hb.block M (by omega))⟩
  refine ⟨⟨k, hC.nx k, Nat.lt_of_lt_of_le h.cb.size hb.size, hM, (e 0).trans h.cb.c0, (e 1).trans h.cb.c1, (e 2).trans h.cb.c2, (e 3).trans h.cb.c3, (e 4).trans h.cb.c4, (e 5).trans h.cb.c5⟩, (hb.block _ (by omega)).trans h.sides, ?_⟩
  rw [List.length_append, encN_snoc]
  exact hr
theorem BsS.side {d : Wat} {M : Nat} {L : List Nat} {lst : Value} {w wr : World} (h : BsS d M L lst w wr) {k : Nat} (hk : k < 4) : wr.cell? ⟨w.heap.size + 1, k, none⟩ = some (.int .i64 (sd k : Int)) := by
  rcases (show k = 0 ∨ k = 1 ∨ k = 2 ∨ k = 3 by omega) with rfl | rfl | rfl | rfl
  · exact cell_of_row wr _ 0 _ _ _ h.sides
  · exact cell_of_row wr _ 1 _ _ _ h.sides
  · exact cell_of_row wr _ 2 _ _ _ h.sides
  · exact cell_of_row wr _ 3 _ _ _ h.sides

set_option maxRecDepth 20000 in
set_option maxHeartbeats 12800000 in
theorem beside_any (d : Wat) (hg : Good d.W d.H d.n d.Z) (hm : d.m = d.W * d.H) (M t : Nat) (ht : t < d.W * d.H) (w : World) (hC : Cx d M w) :
    Calls Try.prog 84 #[d.cht M, .int .i64 t] w (NL d M (bes d.W d.H d.Z d.K t) w) := by
  have hsd := hg.side
  have hsm := mul_small hsd.2.1 hsd.2.2.2
  have hSz : Sized d.W d.H := ⟨⟨by omega, by omega⟩, by omega, by omega⟩
  have hWH : (d.W : Int) * (d.H : Int) = ((d.W * d.H : Nat) : Int) := by simp
  have htz : (t : Int) < (d.W : Int) * (d.H : Int) := by rw [hWH]; omega
  have ht2 : t ≤ 1024 := by omega
  have HJ := hid (fun k r hr w hC => joined_any d hg hm M t ht (sd k : Int) (by omega) (by have := sd_le k; omega) r hr w hC)
  have HBY := hid (fun k w => cbeyond_any d.W d.H t (sd k : Int) _ d.as d.ks d.bs (.map (some M)) hSz (by omega) htz (by omega) (by have := sd_le k; omega) rfl w)
  have hV : BsS d M [] (.slice none 0 0) w ((w.alloc (.cells #[.int .i64 d.W, .int .i64 d.H, d.as, d.ks, d.bs, .map (some M)] 52)).alloc (.cells #[.int .i64 3, .int .i64 2, .int .i64 0, .int .i64 1] 3)) := by
    refine ⟨(CB.start hC).below (Joins.below_alloc1 _ _), ?_, by simpa [encN] using World.ownsRow_nil _ _ _ _⟩
    show ((w.heap.push _).push _)[_]? = _
    rw [Array.getElem?_push, if_pos (by simp)]
  have HV := hid hV
  have HC := hid hC
  have HIN := hid infoX
  obtain ⟨A, hA⟩ : ∃ A, A = w.heap.size := ⟨_, rfl⟩
  have HA := hid hA
  clear hg hm hC hsd hsm hSz hWH htz ht hV
  go_enter Try.func84, Try.ntmps84
  go_wp2_with fail
  simp only [← hA]
  generalize World.alloc _ _ = wv at HV ⊢
  clear hA
  have HCX := HC
  clear HC
  go_loopw [5, 10] (fun lst iv wr => ∃ k : Nat, k ≤ 4 ∧ iv = .int .i64 k ∧ Hid (BsS d M (besK d.W d.H d.Z d.K t k) lst w wr)) (fun _ iv _ => 4 - (intOf iv).toNat)
  case atStart => exact ⟨0, by omega, rfl, HV⟩
  case round =>
    clear HV
    obtain ⟨k, hk, rfl, HV⟩ := hrel
    have hz2 : A + 1 < wr.heap.size := by rw [HA.out]; exact heap_lt HV.out.sides
    have c0 := HV.out.cb.c0
    have c1 := HV.out.cb.c1
    have c2 := HV.out.cb.c2
    have c3 := HV.out.cb.c3
    have c4 := HV.out.cb.c4
    have c5 := HV.out.cb.c5
    have hz := HV.out.cb.size
    rw [← HA.out] at c0 c1 c2 c3 c4 c5 hz
    by_cases hlt : k < 4
    · have hs := HV.out.side hlt
      rw [← HA.out] at hs
      obtain ⟨r, hr⟩ : ∃ r, r = joi d.W d.H d.Z d.K t (sd k : Int) := ⟨_, rfl⟩
      have HJK := hid (HJ.out k r hr)
      have HBK := hid (HBY.out k)
      obtain ⟨s, hs'⟩ : ∃ s : Nat, s = sd k := ⟨_, rfl⟩
      rw [← hs'] at hs HJK HBK
      have HS := hid hs'
      have HR := hid hr
      clear hs' hr
      cases r
      · have hb := besK_no HR.out.symm
        have HBN := hid hb
        clear hb
        go_wp2_with (go_at_call 53; (refine (HJK.out _ HV.out.cb.cx).mono ?_); rintro e wn ⟨rfl, hn⟩; have HV2 := hid (HV.out.on hn); clear hn)
        go_roundw
        case rel => exact ⟨k + 1, by omega, by go_num, hid (by rw [HBN.out]; exact HV2.out)⟩
        case measure => simp [intOf]; omega
      · have hb := besK_yes HR.out.symm
        have hj := joi_bey HR.out.symm
        obtain ⟨n, hn0⟩ : ∃ n : Nat, n = (bey d.W d.H t (sd k : Int)).toNat := ⟨_, rfl⟩
        have hne : bey d.W d.H t (sd k : Int) = (n : Int) := by omega
        rw [← hn0] at hb
        rw [← HS.out] at hne
        rw [hne] at HBK
        have HBN := hid hb
        have hlen := besK_len d.W d.H d.Z d.K t k
        clear hb hj hn0 hne
        go_wp2_with (first
          | (go_at_call 53; (refine (HJK.out _ HV.out.cb.cx).mono ?_); rintro e wn ⟨rfl, hn⟩; have HV2 := hid (HV.out.on hn); clear hn c0 c1 c2 c3 c4 c5 hz hz2 hs; have c0 := HV2.out.cb.c0; have c1 := HV2.out.cb.c1; have c2 := HV2.out.cb.c2; have c3 := HV2.out.cb.c3; have c4 := HV2.out.cb.c4; have c5 := HV2.out.cb.c5; have hz := HV2.out.cb.size; rw [← HA.out] at c0 c1 c2 c3 c4 c5 hz)
          | (go_at_call 79; (refine (HBK.out _).mono ?_); rintro e w4 ⟨rfl, hb⟩; have HV3 := hid (HV2.out.on (HV2.out.cb.cx.go hb)); have hz4 : A + 1 < w4.heap.size := by rw [HA.out]; exact heap_lt HV3.out.sides)
          | (at_builtin; obtain ⟨i0, HIN'⟩ := HIN.out; refine wpList_append_own _ rfl _ _ 22 rfl (A + 2) 3 i0 (.int .i64 0) 1 8 Try.underlying22 HIN'.1 HIN'.2.1 HIN'.2.2.1 HIN'.2.2.2 rfl (by decide) _ _ _ rfl (by rw [HA.out]; exact HV3.out.row.alloc _) ⟨w4.heap.size, 0, none⟩ 1 1 [.int .i64 n] rfl rfl ?c1 ?c2 ?c3 ?c4 ?c5 ?_))
        case c1 =>
          intro j u hj
          match j, hj with
          | 0, hj => simp at hj; subst hj; simp [Addr.add]
        case c2 => intro u hu; simp at hu; subst hu; rfl
        case c3 => unfold maxLen; omega
        case c4 => omega
        case c5 => simp; omega
        intro v' w5 hown' hgrow _
        have HV5 := hid (HV3.out.app (x := n) (by rw [← HA.out]; exact hown') _ hgrow HCX.out)
        clear hown' hgrow
        go_wp2_with fail
        go_roundw
        case rel => exact ⟨k + 1, by omega, by go_num, hid (by rw [HBN.out]; exact HV5.out)⟩
        case measure => simp [intOf]; omega
    · obtain rfl : k = 4 := by omega
      obtain ⟨la, lc, rfl⟩ := row_slice HV.out.row
      go_wp2_with fail
      go_ret
      exact ⟨la, lc, rfl, row_mono HV.out.row (by omega), HV.out.cb.nx⟩
end Go.Proofs.Ytkpnngpnjimogaa
