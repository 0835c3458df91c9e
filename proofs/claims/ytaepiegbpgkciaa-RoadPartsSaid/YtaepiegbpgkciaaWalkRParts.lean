/-
  The walk of Parts of the reference.
-/
import Derived.Test.YtaepiegbpgkciaaWalkParts
import Derived.Test.YtaepiegbpgkciaaWalkMeets
import Derived.Test.YtaepiegbpgkciaaWalkRVal
namespace Go.Proofs.Ytaepiegbpgkciaa
open Go.RowKit

theorem Rin.mem {W H : Int} {n : Nat} {Z : Nat → Int} {f : Nat} {Q P : Nat → Int} {L L' : List Nat} (h : Rin W H n Z f Q P L) (hm : ∀ x, x ∈ L' ↔ x ∈ L) : Rin W H n Z f Q P L' :=
  ⟨h.old, fun t ht => h.path t ((hm t).1 ht), fun t u ht hp hn hj => h.rest t u ht hp (fun k => hn ((hm t).2 k)) hj⟩
/-- The parts ahead of the search: each tile with arms its own part, as far as i. -/
def ini (Z : Nat → Int) (i : Nat) : Nat → Int := fun j => if j < i then (if Z j = 0 then -1 else (j : Int)) else 0
theorem ini_no {Z : Nat → Int} {i : Nat} (h : Z i = 0) : upd (ini Z i) i (-1) = ini Z (i + 1) := by
  funext j
  unfold upd ini
  by_cases e : j = i
  · subst e; rw [if_pos rfl, if_pos (by omega), if_pos h]
  · rw [if_neg e]
    by_cases k : j < i
    · rw [if_pos k, if_pos (show j < i + 1 by omega)]
    · rw [if_neg k, if_neg (show ¬ j < i + 1 by omega)]
theorem ini_yes {Z : Nat → Int} {i : Nat} (h : Z i ≠ 0) (x : Int) : upd (upd (ini Z i) i x) i (i : Int) = ini Z (i + 1) := by
  funext j
  unfold upd ini
  by_cases e : j = i
  · subst e; rw [if_pos rfl, if_pos (by omega), if_neg h]
  · rw [if_neg e, if_neg e]
    by_cases k : j < i
    · rw [if_pos k, if_pos (show j < i + 1 by omega)]
    · rw [if_neg k, if_neg (show ¬ j < i + 1 by omega)]

/-- The memory of the reference's search: the streets' box at A, the parts' row at G, the path's row behind it. -/
structure RS (A G : Nat) (W H : Int) (ao : Option Addr) (n cap : Nat) (Z : Nat → Int) (bo : Option Addr) (bcap : Nat) (Y P : Nat → Int) (L : List Nat) (lst : Value) (w wr : World) : Prop where
  hA : wr.heap[A]? = some (.cells #[.int .i64 W, .int .i64 H, .slice ao n cap, .slice bo n bcap] 24 (0, 0))
  rg : wr.ownsRow A 3 1 (.slice (some ⟨G, 0, none⟩) n n) n (vals n (iv P))
  row : wr.ownsRow (G + 1) 3 1 lst L.length (encI (pth L))
  below : Below A w wr
  eA : A = w.heap.size
  ord : A < G ∧ G < wr.heap.size
  arms0 : Ints w ao n Z
  ways0 : Ints w bo n Y
section
variable {A G : Nat} {W H : Int} {ao bo : Option Addr} {n cap bcap : Nat} {Z Y P : Nat → Int} {L : List Nat} {lst lst' : Value} {w wr w' : World}
theorem RS.arms (h : RS A G W H ao n cap Z bo bcap Y P L lst w wr) : Ints wr ao n Z := h.arms0.stays (by rw [← h.eA]; exact h.below)
theorem RS.ways (h : RS A G W H ao n cap Z bo bcap Y P L lst w wr) : Ints wr bo n Y := h.ways0.stays (by rw [← h.eA]; exact h.below)
theorem RS.stays (h : RS A G W H ao n cap Z bo bcap Y P L lst w wr) (k : Below wr.heap.size wr w') : RS A G W H ao n cap Z bo bcap Y P L lst w w' :=
  ⟨(k.block A (heap_lt h.hA)).trans h.hA, row_stays h.rg k, row_stays h.row k, h.below.trans (k.mono (by have := heap_lt h.hA; omega)), h.eA, ⟨h.ord.1, Nat.lt_of_lt_of_le h.ord.2 k.size⟩, h.arms0, h.ways0⟩
theorem RS.own (h : RS A G W H ao n cap Z bo bcap Y P L lst w wr) : ∀ k, lst.ownBlock = some k → G + 1 ≤ k := fun k hk => (h.row.lt k hk).1
theorem RS.mark (h : RS A G W H ao n cap Z bo bcap Y P L lst w wr) (u : Nat) (x : Int) : RS A G W H ao n cap Z bo bcap Y (upd P u x) L lst w (wr.setCell ⟨G, u, none⟩ (.int .i64 x)) := by
  obtain ⟨o1, o2⟩ := h.ord
  have r := h.rg.stored u (.int .i64 x)
  rw [vals_upd] at r
  refine ⟨(Below.heap_setCell _ _ _ A (by simp; omega)).trans h.hA, r.1, row_other (a := ⟨G, u, none⟩) h.row (fun q => ?_) _, h.below.setCell (p := ⟨G, u, none⟩) (by show A ≤ G; omega) _, h.eA, ⟨o1, by simpa using o2⟩, h.arms0, h.ways0⟩
  have := h.own _ q
  simp at this
  omega
theorem RS.drop (h : RS A G W H ao n cap Z bo bcap Y P L lst w wr) : RS A G W H ao n cap Z bo bcap Y P [] (.slice none 0 0) w wr := ⟨h.hA, h.rg, World.ownsRow_nil _ _ _ _, h.below, h.eA, h.ord, h.arms0, h.ways0⟩
theorem RS.lit (h : RS A G W H ao n cap Z bo bcap Y P L lst w wr) (f : Nat) : RS A G W H ao n cap Z bo bcap Y P [f] (.slice (some ⟨wr.heap.size, 0, none⟩) 1 1) w (wr.alloc (.cells #[.int .i64 f] 3)) := by
  have k := h.drop.stays (Joins.below_alloc1 wr (.cells #[.int .i64 f] 3))
  exact ⟨k.hA, k.rg, World.ownsRow_lit wr #[.int .i64 f] 1 (by have := h.ord; omega) (by unfold maxLen; omega) rfl, k.below, k.eA, k.ord, k.arms0, k.ways0⟩
theorem RS.cut {t b c : Nat} (h : RS A G W H ao n cap Z bo bcap Y P (t :: L) (.slice (some ⟨b, 0, none⟩) (L.length + 1) c) w wr) : RS A G W H ao n cap Z bo bcap Y P L (.slice (some ⟨b, 0, none⟩) L.length c) w wr := by
  have r := h.row
  rw [pth_cons] at r
  exact ⟨h.hA, h.rg, row_cut r, h.below, h.eA, h.ord, h.arms0, h.ways0⟩
theorem RS.app {u : Nat} (h : RS A G W H ao n cap Z bo bcap Y P L lst w wr) (o : Obj) (hg : (wr.alloc o).grownBy w' lst.ownBlock) (hr : w'.ownsRow (G + 1) 3 1 lst' (L.length + 1) (encI (pth L) ++ [.int .i64 u])) : RS A G W H ao n cap Z bo bcap Y P (u :: L) lst' w w' := by
  obtain ⟨o1, o2⟩ := h.ord
  have hb : Below (G + 1) wr w' := ((Below.refl _ wr).alloc (by omega) o).grown hg (by simp; omega) h.own
  refine ⟨(hb.block A (by omega)).trans h.hA, row_below h.rg hb (fun k hk => ?_), ?_, h.below.trans (hb.mono (by omega)), h.eA, ⟨o1, by have := hb.size; omega⟩, h.arms0, h.ways0⟩
  · simp [Value.ownBlock] at hk
    omega
  · rw [pth_cons]; exact hr
theorem RS.cells (h : RS A G W H ao n cap Z bo bcap Y P L lst w wr) : wr.cell? ⟨A, 0, none⟩ = some (.int .i64 W) ∧ wr.cell? ⟨A, 1, none⟩ = some (.int .i64 H) ∧ wr.cell? ⟨A, 2, none⟩ = some (.slice ao n cap) ∧ wr.cell? ⟨A, 3, none⟩ = some (.slice bo n bcap) ∧ A < wr.heap.size ∧ G < wr.heap.size :=
  ⟨cell_of_row wr A 0 _ _ _ h.hA, cell_of_row wr A 1 _ _ _ h.hA, cell_of_row wr A 2 _ _ _ h.hA, cell_of_row wr A 3 _ _ _ h.hA, heap_lt h.hA, h.ord.2⟩
theorem RS.part (h : RS A G W H ao n cap Z bo bcap Y P L lst w wr) {t : Nat} (ht : t < n) : wr.cell? ⟨G, t, none⟩ = some (.int .i64 (P t)) ∧ wr.frozen? ⟨G, t, none⟩ = false :=
  ⟨(h.rg.cellAt t (by omega)).trans (vals_get _ ht), h.rg.frozenAt t⟩
theorem RS.top {t : Nat} (h : RS A G W H ao n cap Z bo bcap Y P (t :: L) lst w wr) : ∃ b c, lst = .slice (some ⟨b, 0, none⟩) (L.length + 1) c ∧ wr.cell? ⟨b, L.length, none⟩ = some (.int .i64 t) ∧ b < wr.heap.size ∧ L.length + 1 ≤ c := by
  obtain ⟨b, c, e, _, _⟩ := h.row.form (by simp)
  have r := h.row
  rw [e] at r
  refine ⟨b, c, e, (r.cellAt L.length (by simp)).trans (pth_top t L), (r.lt b rfl).2, ?_⟩
  obtain ⟨_, hx⟩ := r
  rcases hx with ⟨hv, _⟩ | ⟨_, _, _, hv, _, _, hle, _⟩
  · cases hv
  · cases hv; simp only [List.length_cons] at hle; omega
end
theorem made_vals (n : Nat) : (madeCells #[.int .i64 0] n).toList = vals n (iv (fun _ => 0)) := by
  apply List.ext_getElem?
  intro j
  simp [madeCells, vals]
  congr 1
  funext x
  rw [Nat.mod_one]
  rfl

set_option maxHeartbeats 6400000 in
theorem refparts_to (W H : Int) (ao : Option Addr) (n cap : Nat) (Z : Nat → Int) (bo : Option Addr) (m bcap : Nat) (Y : Nat → Int) (hn : n ≤ 9223372036854775807) (hm : m ≤ 9223372036854775807) (e : Int) (h : VErr W H n m Z Y e) (w : World) (hI : Ints w ao n Z) (hB : Ints w bo m Y) :
    Calls Try.prog 35 #[rv W H (.slice ao n cap) (.slice bo m bcap)] w fun r w' => Below w.heap.size w w' ∧
      ((e ≠ 0 ∧ r = .returned (.tuple #[.slice none 0 0, .int .i64 e])) ∨
       (e = 0 ∧ ∃ (g : Nat) (P : Nat → Int), r = .returned (.tuple #[.slice (some ⟨g, 0, none⟩) n n, .int .i64 0]) ∧ w'.ownsRow w.heap.size 3 1 (.slice (some ⟨g, 0, none⟩) n n) n (vals n (iv P)) ∧ IsPart W H n Z P)) := by
  have HS := hid (sb_start (W := W) (H := H) (cap := cap) (bcap := bcap) hI hB)
  have HV := hid h
  by_cases he : e = 0
  · subst he
    have hR : Right W H n m Z Y := by
      rcases h with ⟨_, h⟩ | h
      · exact h
      · simp at h
    obtain rfl : n = m := hR.eq
    have HR := hid hR
    obtain ⟨n16, n1024⟩ := hR.small
    have HI := hid hI
    have HB := hid hB
    obtain ⟨i0, hi, hz0, hz1, hz2⟩ := info_parts info3
    have HIN := hid (And.intro hi (And.intro hz0 (And.intro hz1 hz2)))
    have hmk := run_mkn n n1024
    clear hI hB h hR hi hz0 hz1 hz2
    go_enter Try.func35, Try.ntmps35
    go_wp2_with fail
    refine (refvalidate_any W H ao n cap Z bo n bcap Y hn hm _ HS.out.arms HS.out.ways 0 HV.out).mono ?_
    rintro r w1 ⟨rfl, hb1⟩
    have HS1 := hid (HS.out.stays hb1)
    obtain ⟨A, hA⟩ : ∃ A, A = w.heap.size := ⟨_, rfl⟩
    have HA := hid hA
    obtain ⟨c0, c1, c2, c3, az⟩ := HS1.out.at hA
    have H1 : Hid (w1.heap[A]? = some (.cells #[.int .i64 W, .int .i64 H, .slice ao n cap, .slice bo n bcap] 24 (0, 0))) := hid (by
      rw [hA]
      refine (hb1.block _ (by simp)).trans ?_
      show (w.heap.push _)[_]? = _
      rw [Array.getElem?_push, if_pos rfl])
    obtain ⟨G, hG⟩ : ∃ G, G = w1.heap.size := ⟨_, rfl⟩
    have HP : Hid (RS A G W H ao n cap Z bo bcap Y (ini Z 0) [] (.slice none 0 0) w (w1.alloc (.cells (madeCells #[.int .i64 0] n) 3))) := hid (by
      have q := Joins.below_alloc1 w1 (.cells (madeCells #[.int .i64 0] n) 3)
      have r := World.ownsRow_lit (base := A) (e := 3) (size := 1) w1 (madeCells #[.int .i64 0] n) n (by omega) (by unfold maxLen; omega) (by simp [madeCells])
      rw [made_vals, ← hG] at r
      refine ⟨(q.block A az).trans H1.out, ?_, World.ownsRow_nil _ _ _ _, by rw [hA]; exact HS1.out.below.trans (q.mono (Nat.le_of_lt (by rw [← hA]; exact az))), hA, ⟨by omega, by simp; omega⟩, HI.out, HB.out⟩
      have hv : vals n (iv (ini Z 0)) = vals n (iv (fun _ => 0)) := vals_congr (fun i _ => by simp [iv, ini])
      rw [hv]; exact r)
    simp only [← hA] at H1 ⊢
    clear hb1 HS hA
    go_upto_region 5 with (fail)
    simp only [← hG]
    clear hmk hG c0 c1 c2 c3 az
    generalize World.alloc _ _ = w3 at HP ⊢
    obtain ⟨c0, c1, c2, c3, az, gz⟩ := HP.out.cells
    go_wp2_with fail
    go_loopw [25] (fun iv wr => ∃ i : Nat, i ≤ n ∧ iv = .int .i64 i ∧ Hid (RS A G W H ao n cap Z bo bcap Y (ini Z i) [] (.slice none 0 0) w wr)) (fun iv _ => n - (intOf iv).toNat)
    case atStart => exact ⟨0, by omega, rfl, HP⟩
    case round =>
      obtain ⟨i, hi, rfl, HX⟩ := hrel
      clear HP c0 c1 c2 c3 az gz
      obtain ⟨c0, c1, c2, c3, az, gz⟩ := HX.out.cells
      by_cases hlt : i < n
      · have in0 : (0 : Int) ≤ (i : Int) := by omega
        have in1 : (i : Int) < (n : Int) := by omega
        have hiw : IntKind.i64.wrap ((i : Int) + 1) = ((i + 1 : Nat) : Int) := by rw [IntKind.wrap_i64]; omega
        obtain ⟨ba, ga, hao, haz, ca⟩ := ints_cell HX.out.arms hlt
        subst hao
        obtain ⟨cp, fp⟩ := HX.out.part hlt
        obtain ⟨z, hz⟩ : ∃ z, z = Z i := ⟨_, rfl⟩
        rw [← hz] at ca
        obtain ⟨p, hp⟩ : ∃ p, p = ini Z i i := ⟨_, rfl⟩
        rw [← hp] at cp
        have HZ := hid hz
        clear hz hp
        by_cases hz0 : z = 0
        · have HZ0 := hid hz0
          have g0 : (z != 0) = false := by simp [hz0]
          clear hz0
          go_wp2_with fail
          have H2 := hid (HX.out.mark i (-1))
          go_roundw
          case rel => exact ⟨i + 1, by omega, by first | rfl | simp only [hiw], hid (by rw [← ini_no (by rw [← HZ.out]; exact HZ0.out)]; exact H2.out)⟩
          case measure => simp only [intOf]; omega
        · have HZ0 := hid hz0
          have g0 : (z != 0) = true := by simpa using hz0
          clear hz0
          go_upto_region 9 with (fail)
          have H2 := hid (HX.out.mark i (-1))
          clear HX c0 c1 c2 c3 az gz haz ca cp fp
          generalize World.setCell _ _ _ = w4 at H2 ⊢
          obtain ⟨cp, fp⟩ := H2.out.part hlt
          rw [upd_same] at cp
          have gz := H2.out.ord.2
          go_wp2_with fail
          have H3 := hid (H2.out.mark i i)
          go_roundw
          case rel => exact ⟨i + 1, by omega, by first | rfl | simp only [hiw], hid (by rw [← ini_yes (by rw [← HZ.out]; exact HZ0.out) (-1)]; exact H3.out)⟩
          case measure => simp only [intOf]; omega
      · obtain rfl : n = i := by omega
        clear hlt hi
        go_wp2_with fail
        go_loopw [42] (fun iv wr => ∃ f : Nat, f ≤ n ∧ iv = .int .i64 f ∧ Hid (∃ P : Nat → Int, Rut W H n Z f P ∧ RS A G W H ao n cap Z bo bcap Y P [] (.slice none 0 0) w wr)) (fun iv _ => n - (intOf iv).toNat)
        case atStart => exact ⟨0, by omega, rfl, hid ⟨_, Rut.start W H n Z _ (fun t ht => by unfold ini; rw [if_pos ht]), HX.out⟩⟩
        case round =>
          obtain ⟨f, hf, rfl, HY⟩ := hrel
          clear HX c0 c1 c2 c3 az gz
          by_cases hlt : f < n
          · obtain ⟨P, hO, hp⟩ := HY.out
            have HO := hid hO
            have HPP := hid hp
            have fn0 : (0 : Int) ≤ (f : Int) := by omega
            have fn1 : (f : Int) < (n : Int) := by omega
            have hfw : IntKind.i64.wrap ((f : Int) + 1) = ((f + 1 : Nat) : Int) := by rw [IntKind.wrap_i64]; omega
            obtain ⟨c0, c1, c2, c3, az, gz⟩ := hp.cells
            obtain ⟨cg, fg⟩ := hp.part hlt
            obtain ⟨p, hpv⟩ : ∃ p, p = P f := ⟨_, rfl⟩
            rw [← hpv] at cg
            have HPV := hid hpv
            clear HY hO hp hpv
            by_cases hpf : p = f
            · have g0 : (p != (f : Int)) = false := by simp [hpf]
              have HPF := hid hpf
              clear hpf
              go_upto_region 17 with (fail)
              have H2 := hid (HPP.out.lit f)
              have hz5 := HPP.out.ord.2
              clear c0 c1 c2 c3 az gz cg fg hz5
              generalize World.alloc _ _ = w6 at H2 ⊢
              have HRI := hid (HO.out.enter hlt (by rw [← HPV.out]; exact HPF.out))
              go_loopg [9] (2 * free P f n + 1) (fun gk lst wr => ∃ (R : Nat → Int) (L : List Nat), gk = 2 * free R f n + L.length ∧ Hid (Rin W H n Z f P R L) ∧ Hid (RS A G W H ao n cap Z bo bcap Y R L lst w wr) ∧ Hid (L.length + free R f n ≤ n + 1))
              case atStart => exact ⟨P, [f], rfl, HRI, H2, hid (by have := free_le P f n; simp only [List.length_cons, List.length_nil]; omega)⟩
              case round =>
                obtain ⟨R, L, hgk, HRR, HPS, HLB⟩ := hrel
                clear H2 HRI
                have HGK := hid hgk
                clear hgk
                rcases L with _ | ⟨t, L⟩
                · obtain ⟨al2, cl2, hlst2⟩ := row_slice HPS.out.row
                  simp only [List.length_nil] at hlst2
                  subst hlst2
                  go_wp2_with fail
                  go_roundw
                  case rel => exact ⟨f + 1, by omega, by first | rfl | simp only [hfw], hid ⟨R, HRR.out.leave HR.out.sized HR.out.args.arms HO.out, HPS.out.drop⟩⟩
                  case measure => simp only [intOf]; omega
                · obtain ⟨b, c, hlst2, hct, hbz, hqc⟩ := HPS.out.top
                  subst hlst2
                  obtain ⟨ht, hpt⟩ := HRR.out.path t (by simp)
                  obtain ⟨q, hq⟩ : ∃ q, q = L.length + 1 := ⟨_, rfl⟩
                  have HLEN := hid hq
                  have hLB : q ≤ n + 1 := by have := HLB.out; simp only [List.length_cons] at this; omega
                  have hqd : decide (0 < q) = true := decide_eq_true (by omega)
                  obtain ⟨q', hq'⟩ : ∃ q', q' = L.length := ⟨_, rfl⟩
                  have hqw : IntKind.i64.wrap ((q : Int) - 1) = (q' : Int) := by rw [IntKind.wrap_i64]; omega
                  have hq2 : q' < q := by omega
                  have hq3 : q ≤ c := by omega
                  have HCUT := hid HPS.out.cut
                  rw [← hq'] at hct HCUT
                  rw [← hq] at HPS ⊢
                  have HPT := hid hpt
                  have tn0 : (0 : Int) ≤ (t : Int) := by omega
                  have tn1 : (t : Int) < (n : Int) := by omega
                  have HQ' := hid hq'
                  clear hpt hq hqc hq'
                  go_wp2_with fail
                  go_loopw [9, 67] (fun lst iv wr => ∃ (k : Nat) (S : Nat → Int) (M : List Nat), k ≤ 4 ∧ iv = .int .i64 k ∧ Hid (Rin W H n Z f P S (t :: M)) ∧ Hid (RS A G W H ao n cap Z bo bcap Y S M lst w wr) ∧ Hid (2 * free S f n + M.length + 1 ≤ gk ∧ M.length + 1 + free S f n ≤ n + 1) ∧ Hid (∀ s : Nat, s < k → ∀ u : Nat, met W H Z t s = u → S u ≤ f)) (fun _ iv _ => 4 - (intOf iv).toNat)
                  case atStart => exact ⟨0, R, L, by omega, rfl, HRR, HCUT, hid (by have h1 := HGK.out; have h2 := HLB.out; simp only [List.length_cons] at h1 h2; omega), hid (fun s hs => by omega)⟩
                  case round =>
                    obtain ⟨k, S, M, hk4, rfl, HRK, HPK, HBK, HMK⟩ := hrel
                    clear HPS HCUT HRR hct hbz HPT
                    obtain ⟨al, cl, hlst⟩ := row_slice HPK.out.row
                    subst hlst
                    obtain ⟨m', hm'⟩ : ∃ m', m' = M.length := ⟨_, rfl⟩
                    rw [← hm'] at HPK ⊢
                    have HM' := hid hm'
                    have hmb : m' ≤ 1024 := by have := HBK.out; omega
                    clear hm'
                    by_cases hlk : k < 4
                    · have kn0 : (0 : Int) ≤ (k : Int) := by omega
                      have kn4 : (k : Int) < 4 := by omega
                      have hkw : IntKind.i64.wrap ((k : Int) + 1) = ((k + 1 : Nat) : Int) := by rw [IntKind.wrap_i64]; omega
                      obtain ⟨x, hx⟩ : ∃ x, met W H Z t k = x := ⟨_, rfl⟩
                      have HX2 := hid hx
                      obtain ⟨c0, c1, c2, c3, az, gz⟩ := HPK.out.cells
                      clear hx
                      go_wp2_with fail
                      refine (meets_to W H ao n cap Z bo n bcap Y HR.out.sized HR.out.args.arms (fun i hi => (HR.out.args.fine i hi).1) t k ht (by omega) (by omega) x HX2.out _ HPK.out.arms HPK.out.ways).mono ?_
                      rintro r w7 ⟨rfl, hb7⟩
                      have HP7 := hid (HPK.out.stays hb7)
                      clear hb7 HPK c0 c1 c2 c3 az gz
                      by_cases hx0 : 0 ≤ x
                      · have hxn : x < n := by rw [HR.out.args.arms, ← HX2.out]; exact met_in HR.out.sized (by omega) (by rw [← HR.out.args.arms]; omega) (by rw [HX2.out]; exact hx0)
                        obtain ⟨u, rfl⟩ := Int.eq_ofNat_of_zero_le hx0
                        have hun : u < n := by omega
                        obtain ⟨cu, fu⟩ := HP7.out.part hun
                        have gz := HP7.out.ord.2
                        obtain ⟨y, hy⟩ : ∃ y, y = S u := ⟨_, rfl⟩
                        rw [← hy] at cu
                        have HY2 := hid hy
                        clear hy
                        by_cases hyf : (f : Int) < y
                        · have q1 : decide ((f : Int) < y) = true := decide_eq_true hyf
                          have HYF := hid hyf
                          clear hyf
                          go_upto_region 26 with (fail)
                          have H8 := hid (HP7.out.mark u f)
                          clear cu fu HP7 gz
                          generalize World.setCell _ _ _ = w8 at H8 ⊢
                          have hz8 := H8.out.ord.2
                          have hrow8 := H8.out.row
                          rw [← HM'.out] at hrow8
                          have HROW8 := hid hrow8
                          clear hrow8
                          go_wp2_with (at_builtin; refine wpList_append_own _ rfl _ _ 22 rfl (G + 1) 3 i0 (.int .i64 0) 1 8 Try.underlying22 HIN.out.1 HIN.out.2.1 HIN.out.2.2.1 HIN.out.2.2.2 rfl (by decide) _ _ _ rfl (HROW8.out.alloc _) ⟨w8.heap.size, 0, none⟩ 1 1 [.int .i64 u] rfl rfl ?c1 ?c2 ?c3 ?c4 ?c5 ?_)
                          case c1 =>
                            intro j v hj
                            match j, hj with
                            | 0, hj => simp at hj; subst hj; simp [Addr.add]
                          case c2 => intro v hv; simp at hv; subst hv; rfl
                          case c3 => unfold maxLen; omega
                          case c4 => omega
                          case c5 => simp; omega
                          intro v' w9 hown' hgrow _
                          have H9 := hid (H8.out.app (u := u) (lst' := v') _ hgrow (by rw [← HM'.out]; exact hown'))
                          clear hown' hgrow
                          go_wp2_with fail
                          go_roundw
                          case rel =>
                            have hfx := HRK.out.facts HO.out
                            have hyu : (f : Int) < S u := by rw [← HY2.out]; exact HYF.out
                            have hfr := free_upd (P := S) (c := f) (x := f) hun hyu (Int.le_refl _)
                            have hbk := HBK.out
                            refine ⟨k + 1, upd S u f, u :: M, by omega, by first | rfl | simp only [hkw], hid ?_, H9, hid ?_, hid ?_⟩
                            · refine ((HRK.out.take HR.out.sized HR.out.args.arms ht (HRK.out.path t (by simp)).2 hfx.1 hfx.2 ⟨k, by omega, by omega, HX2.out⟩ hyu).1).mem (fun a => ?_)
                              simp only [List.mem_cons]
                              constructor
                              · rintro (h | h | h)
                                · exact .inr (.inl h)
                                · exact .inl h
                                · exact .inr (.inr h)
                              · rintro (h | h | h)
                                · exact .inr (.inl h)
                                · exact .inl h
                                · exact .inr (.inr h)
                            · simp only [List.length_cons]; omega
                            · intro s hs a ha
                              by_cases ea : a = u
                              · rw [ea, upd_same]; exact Int.le_refl _
                              · rw [upd_other _ _ ea]
                                by_cases es : s = k
                                · subst es
                                  have := HX2.out
                                  omega
                                · exact HMK.out s (by omega) a ha
                          case measure => simp only [intOf]; omega
                        · have q1 : decide ((f : Int) < y) = false := decide_eq_false hyf
                          have HYF := hid hyf
                          clear hyf
                          go_wp2_with fail
                          go_roundw
                          case rel => exact ⟨k + 1, S, M, by omega, by first | rfl | simp only [hkw], HRK, HP7, HBK, hid (fun s hs a ha => by
                            by_cases es : s = k
                            · subst es
                              have h1 := HX2.out
                              obtain rfl : a = u := by omega
                              have h2 := HYF.out
                              have h3 := HY2.out
                              omega
                            · exact HMK.out s (by omega) a ha)⟩
                          case measure => simp only [intOf]; omega
                      · have HXN := hid hx0
                        have q0 : decide (0 ≤ x) = false := decide_eq_false hx0
                        clear hx0
                        go_wp2_with fail
                        go_roundw
                        case rel => exact ⟨k + 1, S, M, by omega, by first | rfl | simp only [hkw], HRK, HP7, HBK, hid (fun s hs a ha => by
                          by_cases es : s = k
                          · subst es
                            have h1 := HX2.out
                            have h2 := HXN.out
                            omega
                          · exact HMK.out s (by omega) a ha)⟩
                        case measure => simp only [intOf]; omega
                    · obtain rfl : k = 4 := by omega
                      go_wp2_with fail
                      go_roundg (2 * free S f n + M.length)
                      case measure => have := HBK.out; omega
                      case rel => exact ⟨S, M, rfl, hid (HRK.out.pop (fun u hj => by
                        obtain ⟨s, h0, h3, hm⟩ := hj
                        obtain ⟨s', rfl⟩ := Int.eq_ofNat_of_zero_le h0
                        exact HMK.out s' (by omega) u hm)), HPK, hid (by have := HBK.out; omega)⟩
            · have g0 : (p != (f : Int)) = true := by simpa using hpf
              have HPF := hid hpf
              clear hpf
              go_wp2_with fail
              go_roundw
              case rel => exact ⟨f + 1, by omega, by first | rfl | simp only [hfw], hid ⟨P, HO.out.skip (by rw [← HPV.out]; exact HPF.out), HPP.out⟩⟩
              case measure => simp only [intOf]; omega
          · obtain rfl : n = f := by omega
            obtain ⟨P, hO, hp⟩ := HY.out
            have HO := hid hO
            have HPP := hid hp
            clear HY hO hp
            go_wp2_with fail
            go_ret2
            exact ⟨by rw [← HA.out]; exact HPP.out.below, .inr ⟨trivial, G, P, rfl, by rw [← HA.out]; exact HPP.out.rg, HO.out.end (Nat.le_refl _)⟩⟩
  · have e0 : (e != 0) = true := by simpa using he
    clear hI hB h
    go_enter Try.func35, Try.ntmps35
    go_wp2_with fail
    refine (refvalidate_any W H ao n cap Z bo m bcap Y hn hm _ HS.out.arms HS.out.ways e HV.out).mono ?_
    rintro r w1 ⟨rfl, hb1⟩
    have HS1 := hid (HS.out.stays hb1)
    clear hb1
    go_wp2_with fail
    go_ret2
    exact ⟨HS1.out.below, .inl ⟨he, rfl⟩⟩
end Go.Proofs.Ytaepiegbpgkciaa
