/-
  The walk of the law that a way that is turned round is a way.
-/
import Derived.Test.YtlpmahdplilbiabDoorBackWay
namespace Go.Proofs.YtlpmahdplilbiabDoor
open Go.RowKit

/-- The first j spots of a list that is turned round. -/
def bk (S : Nat → Int × Int × Int) (k j : Nat) : List (Int × Int × Int) := (List.range j).map fun i => turn (S (k - 1 - i))
theorem bk_len (S : Nat → Int × Int × Int) (k j : Nat) : (bk S k j).length = j := by simp [bk]
theorem bk_succ (S : Nat → Int × Int × Int) (k j : Nat) : bk S k (j + 1) = bk S k j ++ [turn (S (k - 1 - j))] := by simp [bk, List.range_succ]
theorem bk_get (S : Nat → Int × Int × Int) (k : Nat) {j i : Nat} (h : i < j) : (bk S k j).getD i (0, 0, 0) = turn (S (k - 1 - i)) := by
  rw [List.getD_eq_getElem?_getD]
  simp [bk, h]
theorem spots_of_row {w : World} {A : Nat} {al : Option Addr} {L : List (Int × Int × Int)} {cl : Nat} (h : w.ownsRow A 32 3 (.slice al L.length cl) L.length (encS L)) : SpotsAt w al L.length (fun j => L.getD j (0, 0, 0)) := by
  intro j hj
  obtain ⟨gl, cl2, he, _, _⟩ := h.form (by omega)
  obtain ⟨rfl, rfl⟩ : al = some ⟨gl, 0, none⟩ ∧ cl = cl2 := by simpa using he
  have e3 := encS_get L j hj
  refine ⟨gl, 0, rfl, (h.lt gl rfl).2, ?_, ?_, ?_⟩
  · rw [Nat.zero_add]; exact (h.cellAt (j * 3) (by omega)).trans e3.1
  · rw [Nat.zero_add]; exact (h.cellAt (j * 3 + 1) (by omega)).trans e3.2.1
  · rw [Nat.zero_add]; exact (h.cellAt (j * 3 + 2) (by omega)).trans e3.2.2

set_option maxRecDepth 20000 in
set_option maxHeartbeats 6400000 in
theorem walk_back (Wd Hd : Int) (ao : Option Addr) (n cap : Nat) (Z : Nat → Int) (bo : Option Addr) (m bcap : Nat) (B : Nat → Bool) (hn : n ≤ 9223372036854775807) (hm : m ≤ 9223372036854775807) (lo : Option Addr) (k lcap : Nat) (hk : k ≤ 9223372036854775807) (S : Nat → Int × Int × Int)
    (w : World) (hT : Tab w) (hI : Ints w ao n Z) (hB : Bools w bo m B) (hSP : SpotsAt w lo k S) :
    Calls Tryd.prog 3 #[rv Wd Hd (.slice ao n cap) (.slice bo m bcap), .slice lo k lcap] w fun r w' => r = .returned (.bool true) ∧ Below w.heap.size w w' := by
  obtain ⟨e, hE⟩ := WayIs.ex Wd Hd n m Z B k S
  obtain ⟨i0, hi, hz0, hz1, hz2⟩ := info_parts info31
  have HIN := hid (And.intro hi (And.intro hz0 (And.intro hz1 hz2)))
  clear hi hz0 hz1 hz2
  have HE := hid hE
  have HSP := hid hSP
  have HT := hid hT
  have HI := hid hI
  have HB := hid hB
  have HS := hid (rb_start (Wd := Wd) (Hd := Hd) (cap := cap) (bcap := bcap) hT hI hB)
  clear hT hI hB hE hSP
  obtain ⟨X, hX⟩ : ∃ X, X = w.heap.size := ⟨_, rfl⟩
  have HX := hid hX
  by_cases hf : Far n m
  · have HF := hid hf
    clear hf
    go_enter Tryd.func3, Tryd.ntmps3
    go_wp2_with fail
    refine (far_yes Wd Hd ao n cap bo m bcap (by omega) (by omega) HF.out _).mono ?_
    rintro r w1 ⟨rfl, hb1⟩
    have HS1 := hid (HS.out.stays hb1)
    clear hb1
    go_wp2_with fail
    refine (known_any _ HS1.out.tab).mono ?_
    rintro r w2 ⟨rfl, hb2⟩
    have HS2 := hid (HS1.out.stays hb2)
    clear hb2
    go_wp2_with fail
    go_ret
    exact ⟨rfl, HS2.out.below⟩
  · have HF : Hid (n ≤ 3000 ∧ m ≤ 3000) := hid (by unfold Far at hf; omega)
    clear hf
    by_cases hk3 : 3000 < k
    · go_enter Tryd.func3, Tryd.ntmps3
      go_wp2_with fail
      refine (far_no Wd Hd ao n cap bo m bcap HF.out _).mono ?_
      rintro r w1 ⟨rfl, hb1⟩
      have HS1 := hid (HS.out.stays hb1)
      clear hb1
      go_wp2_with fail
      refine (known_any _ HS1.out.tab).mono ?_
      rintro r w2 ⟨rfl, hb2⟩
      have HS2 := hid (HS1.out.stays hb2)
      clear hb2
      go_wp2_with fail
      go_ret
      exact ⟨rfl, HS2.out.below⟩
    · have hk4 : k ≤ 3000 := by omega
      have HK := hid hk4
      clear hk3
      by_cases he : e = 0
      · subst he
        go_enter Tryd.func3, Tryd.ntmps3
        go_wp2_with fail
        refine (far_no Wd Hd ao n cap bo m bcap HF.out _).mono ?_
        rintro r w1 ⟨rfl, hb1⟩
        have HS1 := hid (HS.out.stays hb1)
        have c0 := HS1.out.c0
        have c1 := HS1.out.c1
        have c2 := HS1.out.c2
        have c3 := HS1.out.c3
        simp only [← hX] at c0 c1 c2 c3 ⊢
        clear hb1 HS hX
        go_wp2_with fail
        refine (way_to Wd Hd ao n cap Z bo m bcap B hn hm lo k lcap HK.out S 0 HE.out _ HS1.out.tab HS1.out.ints HS1.out.bools (HSP.out.stays HS1.out.below)).mono ?_
        rintro r w2 ⟨rfl, hb2⟩
        have HQ : Hid (QS Wd Hd ao n cap Z bo m bcap B (bk S k 0) (.slice none 0 0) w w2) := hid ⟨HS1.out.stays hb2, World.ownsRow_nil _ _ _ _⟩
        clear hb2 c0 c1 c2 c3 HS1
        go_wp2_with fail
        go_loopg [5, 6] k (fun gk lst iv wr => ∃ x : Int, iv = .int .i64 x ∧ x = (gk : Int) - 1 ∧ gk ≤ k ∧ Hid (QS Wd Hd ao n cap Z bo m bcap B (bk S k (k - gk)) lst w wr))
        case atStart => exact ⟨_, rfl, by omega, Nat.le_refl _, hid (by rw [Nat.sub_self]; exact HQ.out)⟩
        case round =>
          obtain ⟨x, rfl, hx, hgk, hQ⟩ := hrel
          clear HQ
          by_cases h0 : 0 < gk
          · obtain ⟨q, rfl⟩ : ∃ q, gk = q + 1 := ⟨gk - 1, by omega⟩
            obtain rfl : x = (q : Int) := by omega
            clear hx
            obtain ⟨lb, off, rfl, hbz, q0, q1, q2⟩ := (HSP.out.stays hQ.out.rb.below) q (by omega)
            obtain ⟨⟨t, p, s⟩, hx⟩ : ∃ x, S q = x := ⟨_, rfl⟩
            have hsp := (way_ok HE.out).2.1 q (by omega)
            rw [hx] at hsp q0 q1 q2
            simp only at q0 q1 q2
            have ho := (spot_turn hsp).1
            obtain ⟨o, hoo⟩ : ∃ o, oth p s = o := ⟨_, rfl⟩
            have hsp1 : 0 ≤ oth p s := hsp.1
            have HXX : Hid (turn (S q) = (t, p, o)) := hid (by rw [hx, ← hoo]; rfl)
            have HOO := hid hoo
            have HO1 := hid hsp1
            have ho0 : 0 ≤ o := by rw [← hoo]; exact hsp1
            have hwf := oth_yes hsp1
            rw [hoo] at hwf
            clear hx hsp ho hoo hsp1 h0
            go_wp2_with fail
            refine (back_yes ho0 HOO.out _ hQ.out.rb.tab).mono ?_
            rintro r w5 ⟨rfl, hb5⟩
            have HQ6 := hid ((hQ.out.stays hb5).stays (Joins.below_alloc1 w5 (.cells #[.int .i64 t, .int .i64 p, .int .i64 o] 32)))
            have HSZ : Hid (w.heap.size + 1 ≤ w5.heap.size) := hid (by have := (hQ.out.stays hb5).rb.size; omega)
            have hlen := bk_len S k (k - (q + 1))
            clear hb5 q0 q1 q2 hbz hQ
            go_wp2_with (at_builtin; refine wpList_append_own _ rfl _ _ 26 rfl (w.heap.size + 1) 32 i0 (.agg #[.int .i64 0, .int .i64 0, .int .i64 0]) 3 24 Tryd.underlying26 HIN.out.1 HIN.out.2.1 HIN.out.2.2.1 HIN.out.2.2.2 rfl (by decide) _ _ _ rfl (HQ6.out.row.alloc _) ⟨w5.heap.size + 1, 0, none⟩ 1 1 [.int .i64 t, .int .i64 p, .int .i64 o] rfl rfl ?c1 ?c2 ?c3 ?c4 ?c5 ?_)
            case c1 =>
              intro j u hj
              match j, hj with
              | 0, hj => simp at hj; subst hj; simp [Addr.add]
              | 1, hj => simp at hj; subst hj; simp [Addr.add]
              | 2, hj => simp at hj; subst hj; simp [Addr.add]
            case c2 => intro u hu; simp at hu; rcases hu with rfl | rfl | rfl <;> rfl
            case c3 => unfold maxLen; omega
            case c4 => omega
            case c5 => have := HSZ.out; simp; omega
            intro v' w7 hown' hgrow _
            have hown2 : w7.ownsRow (w.heap.size + 1) 32 3 v' ((bk S k (k - (q + 1))).length + 1) (encS (bk S k (k - (q + 1))) ++ sc (t, p, o)) := by rw [bk_len]; exact hown'
            have H7 := hid (HQ6.out.app (x := (t, p, o)) HT.out HI.out HB.out hown2 _ hgrow)
            clear hown' hown2 hgrow
            go_wp2_with fail
            go_roundg q
            case measure => omega
            case rel => exact ⟨_, rfl, by omega, by omega, hid (by rw [show k - q = k - (q + 1) + 1 by omega, bk_succ, show k - 1 - (k - (q + 1)) = q by omega, HXX.out]; exact H7.out)⟩
          · obtain rfl : gk = 0 := by omega
            obtain rfl : x = -1 := by omega
            rw [Nat.sub_zero] at hQ
            obtain ⟨L, hLL⟩ : ∃ L, L = bk S k k := ⟨_, rfl⟩
            have hlen : L.length = k := by rw [hLL]; exact bk_len _ _ _
            rw [← hLL] at hQ
            have hrow := hQ.out.row
            obtain ⟨al, cl, rfl⟩ := row_slice hrow
            have HSP2 := hid (spots_of_row hrow)
            have HWI : Hid (WayIs Wd Hd n m Z B L.length (fun j => L.getD j (0, 0, 0)) 0) := hid (by
              rw [hlen]
              exact way_back HE.out (fun i hi => by rw [hLL]; exact bk_get S k hi))
            have hLk : L.length ≤ 3000 := by omega
            have HLK := hid hLk
            have c0 := hQ.out.rb.c0
            have c1 := hQ.out.rb.c1
            have c2 := hQ.out.rb.c2
            have c3 := hQ.out.rb.c3
            rw [← HX.out] at c0 c1 c2 c3
            clear hrow hLL hlen hx
            go_wp2_with fail
            refine (way_to Wd Hd ao n cap Z bo m bcap B hn hm al L.length cl HLK.out _ 0 HWI.out _ hQ.out.rb.tab hQ.out.rb.ints hQ.out.rb.bools HSP2.out).mono ?_
            rintro r w5 ⟨rfl, hb5⟩
            have H5 := hid (hQ.out.rb.stays hb5)
            clear hb5 c0 c1 c2 c3
            go_wp2_with fail
            refine (known_any _ H5.out.tab).mono ?_
            rintro r w6 ⟨rfl, hb6⟩
            have H6 := hid (H5.out.stays hb6)
            clear hb6
            go_wp2_with fail
            go_ret
            exact ⟨rfl, H6.out.below⟩
      · have g1 : (e != 0) = true := by simpa using he
        clear he
        go_enter Tryd.func3, Tryd.ntmps3
        go_wp2_with fail
        refine (far_no Wd Hd ao n cap bo m bcap HF.out _).mono ?_
        rintro r w1 ⟨rfl, hb1⟩
        have HS1 := hid (HS.out.stays hb1)
        have c0 := HS1.out.c0
        have c1 := HS1.out.c1
        have c2 := HS1.out.c2
        have c3 := HS1.out.c3
        simp only [← hX] at c0 c1 c2 c3 ⊢
        clear hb1 HS hX
        go_wp2_with fail
        refine (way_to Wd Hd ao n cap Z bo m bcap B hn hm lo k lcap HK.out S e HE.out _ HS1.out.tab HS1.out.ints HS1.out.bools (HSP.out.stays HS1.out.below)).mono ?_
        rintro r w2 ⟨rfl, hb2⟩
        have HS2 := hid (HS1.out.stays hb2)
        clear hb2 c0 c1 c2 c3
        go_wp2_with fail
        refine (known_any _ HS2.out.tab).mono ?_
        rintro r w3 ⟨rfl, hb3⟩
        have HS3 := hid (HS2.out.stays hb3)
        clear hb3
        go_wp2_with fail
        go_ret
        exact ⟨rfl, HS3.out.below⟩
end Go.Proofs.YtlpmahdplilbiabDoor
