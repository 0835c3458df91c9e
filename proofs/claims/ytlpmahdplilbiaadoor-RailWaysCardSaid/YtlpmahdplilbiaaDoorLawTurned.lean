/-
  The walk of the law that what is behind a spot leads back to it.
-/
import Derived.Test.YtlpmahdplilbiaaDoorTurn
import Derived.Test.YtlpmahdplilbiaaDoorLawNext
namespace Go.Proofs.YtlpmahdplilbiaaDoor
open Go.RowKit

/-- The memory of the law: its boxes, the spots behind the spot, the spot turned round. -/
structure TS (A C : Nat) (W H : Int) (ao : Option Addr) (n cap : Nat) (Z : Nat → Int) (bo : Option Addr) (m bcap : Nat) (B : Nat → Bool) (t p s t' p' s' : Int) (L : List (Int × Int × Int)) (lst : Value) (w wr : World) : Prop where
  nb : NB A W H ao n cap Z bo m bcap B t p s w wr
  row : wr.ownsRow (A + 2) 31 3 lst L.length (encS L)
  bk : wr.heap[C]? = some (.cells #[.int .i64 t', .int .i64 p', .int .i64 s'] 31 (0, 0))
section
variable {A C : Nat} {W H : Int} {ao bo : Option Addr} {n cap m bcap : Nat} {Z : Nat → Int} {B : Nat → Bool} {t p s t' p' s' : Int} {L : List (Int × Int × Int)} {lst : Value} {w wr w' : World}
theorem TS.stays (h : TS A C W H ao n cap Z bo m bcap B t p s t' p' s' L lst w wr) (k : Below wr.heap.size wr w') : TS A C W H ao n cap Z bo m bcap B t p s t' p' s' L lst w w' :=
  ⟨h.nb.stays k, row_stays h.row k, (k.block _ (heap_lt h.bk)).trans h.bk⟩
theorem TS.back (h : TS A C W H ao n cap Z bo m bcap B t p s t' p' s' L lst w wr) : wr.cell? ⟨C, 0, none⟩ = some (.int .i64 t') ∧ wr.cell? ⟨C, 1, none⟩ = some (.int .i64 p') ∧ wr.cell? ⟨C, 2, none⟩ = some (.int .i64 s') :=
  ⟨cell_of_row wr C 0 _ _ _ h.bk, cell_of_row wr C 1 _ _ _ h.bk, cell_of_row wr C 2 _ _ _ h.bk⟩
end
theorem getD_mem {L : List (Int × Int × Int)} {j : Nat} (h : j < L.length) : L.getD j (0, 0, 0) ∈ L := by
  rw [List.getD_eq_getElem?_getD, List.getElem?_eq_getElem h]; exact List.getElem_mem _
theorem mem_getD {L : List (Int × Int × Int)} {x : Int × Int × Int} (h : x ∈ L) : ∃ j, j < L.length ∧ L.getD j (0, 0, 0) = x := by
  obtain ⟨j, hj, rfl⟩ := List.getElem_of_mem h
  exact ⟨j, hj, by rw [List.getD_eq_getElem?_getD, List.getElem?_eq_getElem hj]; rfl⟩

set_option maxRecDepth 20000 in
set_option maxHeartbeats 6400000 in
theorem walk_turned (Wd Hd : Int) (ao : Option Addr) (n cap : Nat) (Z : Nat → Int) (bo : Option Addr) (m bcap : Nat) (B : Nat → Bool) (hn : n ≤ 9223372036854775807) (hm : m ≤ 9223372036854775807) (t p s : Int) (w : World) (hT : Tab w) (hI : Ints w ao n Z) (hB : Bools w bo m B) :
    Calls Tryd.prog 10 #[rv Wd Hd (.slice ao n cap) (.slice bo m bcap), sv t p s] w fun r w' => r = .returned (.bool true) ∧ Below w.heap.size w w' := by
  obtain ⟨L, e, hL⟩ := NextIs.ex Wd Hd n m Z B t p s
  obtain ⟨t', p', s', g, hBI⟩ := BackIs.ex t p s
  have HL := hid hL
  have HBI := hid hBI
  have hlen := hL.len
  have HS := hid (nb_start (W := Wd) (H := Hd) (cap := cap) (bcap := bcap) (t := t) (p := p) (s := s) hT hI hB)
  clear hT hI hB hL hBI
  obtain ⟨X, hX⟩ : ∃ X, X = w.heap.size := ⟨_, rfl⟩
  have HX := hid hX
  by_cases hf : Far n m
  · have HF := hid hf
    clear hf
    go_enter Tryd.func10, Tryd.ntmps10
    go_wp2_with fail
    refine (far_yes Wd Hd ao n cap bo m bcap (by omega) (by omega) HF.out _).mono ?_
    rintro r w1 ⟨rfl, hb1⟩
    have HS1 := hid (HS.out.stays hb1)
    clear hb1
    go_wp2_with fail
    refine (known_any _ HS1.out.tab).mono ?_
    rintro r w2 ⟨rfl, hb2⟩
    have HS2 := hid (HS1.out.stays hb2)
    clear hb2
    go_wp2_with fail
    go_ret
    exact ⟨rfl, HS2.out.bx.below⟩
  · have HF : Hid (n ≤ 3000 ∧ m ≤ 3000) := hid (by unfold Far at hf; omega)
    clear hf
    go_enter Tryd.func10, Tryd.ntmps10
    go_wp2_with fail
    refine (far_no Wd Hd ao n cap bo m bcap HF.out _).mono ?_
    rintro r w1 ⟨rfl, hb1⟩
    have HS1 := hid (HS.out.stays hb1)
    simp only [← hX] at HS1 ⊢
    obtain ⟨⟨x0, x1, x2, x3⟩, y0, y1, y2⟩ := HS1.out.cells
    clear hb1 HS hX
    go_wp2_with fail
    refine (next_to Wd Hd ao n cap Z bo m bcap B hn hm t p s L e HL.out _ HS1.out.tab HS1.out.ints HS1.out.bools).mono ?_
    rintro r w2 ⟨l1, rfl, hr1, hb2⟩
    have HS2 := hid (HS1.out.stays hb2)
    have HR1 := hid (row_mono (base' := X + 2) hr1 (by have := heap_lt HS1.out.bx.hr; omega))
    obtain ⟨al, cl, rfl⟩ := row_slice hr1
    clear hb2 hr1 x0 x1 x2 x3 y0 y1 y2 HS1
    obtain ⟨⟨x0, x1, x2, x3⟩, y0, y1, y2⟩ := HS2.out.cells
    go_wp2_with fail
    refine (back_to HBI.out _ HS2.out.tab).mono ?_
    rintro r w3 ⟨rfl, hb3⟩
    have HT3 : Hid (TS X w3.heap.size Wd Hd ao n cap Z bo m bcap B t p s t' p' s' L (.slice al L.length cl) w (w3.alloc (.cells #[.int .i64 t', .int .i64 p', .int .i64 s'] 31))) := hid (by
      have k := Joins.below_alloc1 w3 (.cells #[.int .i64 t', .int .i64 p', .int .i64 s'] 31)
      refine ⟨(HS2.out.stays hb3).stays k, row_stays (row_stays HR1.out hb3) k, ?_⟩
      show (w3.heap.push _)[_]? = _
      rw [Array.getElem?_push, if_pos rfl])
    obtain ⟨C, hC⟩ : ∃ C, C = w3.heap.size := ⟨_, rfl⟩
    rw [← hC] at HT3
    clear hb3 x0 x1 x2 x3 y0 y1 y2 HS2 HR1
    go_wp2_with fail
    simp only [← hC]
    clear hC
    generalize World.alloc _ _ = w4 at HT3 ⊢
    go_loopw [9] (fun iv wr => ∃ i : Nat, i ≤ L.length ∧ iv = .int .i64 i ∧ Hid (TS X C Wd Hd ao n cap Z bo m bcap B t p s t' p' s' L (.slice al L.length cl) w wr)) (fun iv _ => L.length - (intOf iv).toNat)
    case atStart => exact ⟨0, Nat.zero_le _, rfl, HT3⟩
    case round =>
      obtain ⟨i, hi, rfl, hR⟩ := hrel
      clear HT3
      by_cases hlt : i < L.length
      · have hcase : e = 0 ∧ L = nxt Wd Hd Z t s ∧ Right Wd Hd n m Z B ∧ IsSpot n Z t p s := by
          rcases HL.out with ⟨_, h, _⟩ | h
          · rw [h] at hlt; simp at hlt
          · exact h
        obtain ⟨rfl, hLn, hRi, hsp⟩ := hcase
        have hback : t' = t ∧ p' = p ∧ s' = oth p s ∧ g = 0 := by
          rcases HBI.out with ⟨_, h⟩ | ⟨h, _⟩
          · exact h
          · have := hsp.1; omega
        obtain ⟨rfl, rfl, hs', rfl⟩ := hback
        obtain ⟨⟨a, b, c⟩, hx⟩ : ∃ x, L.getD i (0, 0, 0) = x := ⟨_, rfl⟩
        have hm' : (a, b, c) ∈ nxt Wd Hd Z t' s := by rw [← hx, ← hLn]; exact getD_mem hlt
        obtain ⟨hsx, hmem⟩ := nxt_back hRi hsp hm'
        obtain ⟨o, ho⟩ : ∃ o, oth b c = o := ⟨_, rfl⟩
        have ho0 : 0 ≤ o := by rw [← ho]; exact hsx.1
        have hmem2 : (t', p', s') ∈ nxt Wd Hd Z a o := by rw [← ho, hs']; exact hmem
        have hNX : NextIs Wd Hd n m Z B a b o (nxt Wd Hd Z a o) 0 := .inr ⟨rfl, rfl, hRi, ⟨by rw [← ho, oth_back hsx.1]; exact (oth_yes hsx.1).2.1, hsx.2⟩⟩
        obtain ⟨q, hq, hqm⟩ := mem_getD hmem2
        have HNX := hid hNX
        have HO := hid ho
        have HQ := hid (And.intro hq hqm)
        have hkl := nxt_len Wd Hd Z a o
        obtain ⟨K, hK⟩ : ∃ K, K = nxt Wd Hd Z a o := ⟨_, rfl⟩
        rw [← hK] at HNX HQ hkl
        obtain ⟨gl, cl2, he, _, _⟩ := hR.out.row.form (by omega)
        obtain ⟨rfl, rfl⟩ : al = some ⟨gl, 0, none⟩ ∧ cl = cl2 := by simpa using he
        have e3 := encS_get L i hlt
        have k0 := (hR.out.row.cellAt (i * 3) (by omega)).trans e3.1
        have k1 := (hR.out.row.cellAt (i * 3 + 1) (by omega)).trans e3.2.1
        have k2 := (hR.out.row.cellAt (i * 3 + 2) (by omega)).trans e3.2.2
        rw [hx] at k0 k1 k2
        simp only at k0 k1 k2
        have hgl := (hR.out.row.lt gl rfl).2
        clear hLn hRi hsp hs' hx hm' hsx hmem ho hmem2 hNX hq hqm hK he e3
        go_wp2_with fail
        refine (back_yes ho0 HO.out _ hR.out.nb.tab).mono ?_
        rintro r w5 ⟨rfl, hb5⟩
        have HB5 := hid (Joins.below_alloc1 w5 (.cells #[.int .i64 a, .int .i64 b, .int .i64 o] 31))
        have H5 := hid ((hR.out.stays hb5).stays HB5.out)
        obtain ⟨⟨x0, x1, x2, x3⟩, y0, y1, y2⟩ := (hR.out.stays hb5).nb.cells
        have hA5 := heap_lt (hR.out.stays hb5).nb.bx.hr
        have hX5 : X < w5.heap.size := by omega
        clear hb5 k0 k1 k2 hR hgl
        go_wp2_with fail
        refine (next_to Wd Hd ao n cap Z bo m bcap B hn hm a b o K 0 HNX.out _ H5.out.nb.tab H5.out.nb.ints H5.out.nb.bools).mono ?_
        rintro r w6 ⟨lk, rfl, hrk, hb6⟩
        have H6 := hid (H5.out.stays hb6)
        have HRK := hid hrk
        obtain ⟨gk, ck, rfl, _, _⟩ := hrk.form (by have := HQ.out.1; omega)
        have hgk := (hrk.lt gk rfl).2
        obtain ⟨z0, z1, z2⟩ := H6.out.back
        have hCz := heap_lt H6.out.bk
        clear hb6 hrk x0 x1 x2 x3 y0 y1 y2 H5 HB5 hA5 hX5
        go_wp2_with fail
        go_loopw [15, 14] (fun iv fv wr => ∃ (j r : Nat) (fb : Bool), j ≤ K.length ∧ iv = .int .i64 j ∧ fv = .bool fb ∧ wr = w6.drewN r ∧ Hid (q < j → fb = true)) (fun iv _ _ => K.length - (intOf iv).toNat)
        case atStart => exact ⟨0, 0, false, Nat.zero_le _, rfl, rfl, rfl, hid (fun h => by omega)⟩
        case round =>
          obtain ⟨j, r, fb, hj, rfl, rfl, rfl, hfd⟩ := hrel
          by_cases hjl : j < K.length
          · have e3 := encS_get K j hjl
            have k0 := (HRK.out.cellAt (j * 3) (by omega)).trans e3.1
            have k1 := (HRK.out.cellAt (j * 3 + 1) (by omega)).trans e3.2.1
            have k2 := (HRK.out.cellAt (j * 3 + 2) (by omega)).trans e3.2.2
            obtain ⟨⟨a', b', c'⟩, hx⟩ : ∃ x, K.getD j (0, 0, 0) = x := ⟨_, rfl⟩
            rw [hx] at k0 k1 k2
            simp only at k0 k1 k2
            have HX2 := hid hx
            have y3 : (0 : Int) ≤ (j : Int) := by omega
            have y4 : (j : Int) < (K.length : Int) := by omega
            clear e3 hx
            cases fb
            · by_cases ha : a' = t' ∧ b' = p' ∧ c' = s'
              · obtain ⟨rfl, rfl, rfl⟩ := ha
                go_wp2_with fail
                go_quiet (fail)
                go_wp2_with fail
                go_roundw
                case rel => exact ⟨j + 1, _, true, by omega, by go_num, rfl, rfl, hid (fun _ => rfl)⟩
                case measure => simp [intOf]; omega
              · have hqj : Hid (q < j + 1 → false = true) := hid (fun h => by
                  by_cases hqj : q < j
                  · exact hfd.out hqj
                  · obtain rfl : q = j := by omega
                    have := HX2.out.symm.trans HQ.out.2
                    simp only [Prod.mk.injEq] at this
                    exact absurd this ha)
                have he : ((a' == t') && (b' == p') && (c' == s')) = false := by
                  rw [Bool.eq_false_iff]
                  intro h
                  simp at h
                  exact ha ⟨h.1.1, h.1.2, h.2⟩
                have hcs : (a' == t') = false ∨ (a' = t' ∧ (b' == p') = false) ∨ (a' = t' ∧ b' = p' ∧ (c' == s') = false) := by
                  by_cases h1 : a' = t'
                  · by_cases h2 : b' = p'
                    · exact .inr (.inr ⟨h1, h2, by simpa using fun h3 => ha ⟨h1, h2, h3⟩⟩)
                    · exact .inr (.inl ⟨h1, by simpa using h2⟩)
                  · exact .inl (by simpa using h1)
                clear ha he HX2
                rcases hcs with h1 | ⟨rfl, h2⟩ | ⟨rfl, rfl, h3⟩
                all_goals
                  go_wp2_with fail
                  go_quiet (fail)
                  go_wp2_with fail
                  go_roundw
                  case rel => exact ⟨j + 1, _, false, by omega, by go_num, rfl, rfl, hqj⟩
                  case measure => simp [intOf]; omega
            · go_wp2_with fail
              go_quiet (fail)
              go_wp2_with fail
              go_roundw
              case rel => exact ⟨j + 1, _, true, by omega, by go_num, rfl, rfl, hid (fun _ => rfl)⟩
              case measure => simp [intOf]; omega
          · obtain rfl : j = K.length := by omega
            have hft := hfd.out HQ.out.1
            subst hft
            clear hfd
            go_wp2_with fail
            have H7 := hid (H6.out.stays (Joins.below_draws _ _ r))
            go_roundw
            case rel => exact ⟨i + 1, by omega, by go_num, H7⟩
            case measure => simp [intOf]; omega
      · obtain rfl : L.length = i := by omega
        go_wp2_with fail
        refine (known_any _ hR.out.nb.tab).mono ?_
        rintro r w5 ⟨rfl, hb5⟩
        have H5 := hid (hR.out.stays hb5)
        clear hb5
        go_wp2_with fail
        go_ret
        exact ⟨rfl, by rw [← HX.out]; exact H5.out.nb.bx.below⟩
end Go.Proofs.YtlpmahdplilbiaaDoor
