/-
  The walk of the law on the ways of a drive.
-/
import Derived.Test.YtaepiegbpgkciaaKnown
import Derived.Test.YtaepiegbpgkciaaSame
import Derived.Test.YtaepiegbpgkciaaWalkGo
import Derived.Test.YtaepiegbpgkciaaWays
namespace Go.Proofs.Ytaepiegbpgkciaa
open Go.RowKit

/-- The memory of the law: the streets' box, the drive's tiles, the parts. -/
structure WS (W H : Int) (ao : Option Addr) (n cap : Nat) (Z : Nat → Int) (bo : Option Addr) (bcap : Nat) (Y : Nat → Int) (lb lo d : Nat) (F : Nat → Int) (g : Nat) (P : Nat → Int) (w wr : World) : Prop where
  sb : SB W H ao n cap Z bo n bcap Y w wr
  li : Ints wr (some ⟨lb, lo, none⟩) d F
  pi : Ints wr (some ⟨g, 0, none⟩) n P
section
variable {W H : Int} {ao bo : Option Addr} {n cap bcap : Nat} {Z Y : Nat → Int} {lb lo d : Nat} {F : Nat → Int} {g : Nat} {P : Nat → Int} {w wr w' : World}
theorem WS.stays (h : WS W H ao n cap Z bo bcap Y lb lo d F g P w wr) (k : Below wr.heap.size wr w') : WS W H ao n cap Z bo bcap Y lb lo d F g P w w' := ⟨h.sb.stays k, h.li.stays k, h.pi.stays k⟩
theorem WS.tile (h : WS W H ao n cap Z bo bcap Y lb lo d F g P w wr) {j : Nat} (hj : j < d) : wr.cell? ⟨lb, lo + j, none⟩ = some (.int .i64 (F j)) ∧ lb < wr.heap.size := by
  obtain ⟨b, off, e, hz, hc⟩ := ints_cell h.li hj
  cases e
  exact ⟨hc, hz⟩
theorem WS.part (h : WS W H ao n cap Z bo bcap Y lb lo d F g P w wr) {j : Nat} (hj : j < n) : wr.cell? ⟨g, j, none⟩ = some (.int .i64 (P j)) ∧ g < wr.heap.size := by
  obtain ⟨b, off, e, hz, hc⟩ := ints_cell h.pi hj
  cases e
  rw [Nat.zero_add] at hc
  exact ⟨hc, hz⟩
/-- What a region keeps: all of it, with the cells that it reads. -/
theorem ws_keep {a b : World} {X i j : Nat} {x y : Int} {p : Prop} (hX : X = w.heap.size) (hi : i < d) (hj : j < d) (hx : F i = x) (hy : F j = y) (h : WS W H ao n cap Z bo bcap Y lb lo d F g P w a ∧ p) (hb : Below a.heap.size a b) :
    WS W H ao n cap Z bo bcap Y lb lo d F g P w b ∧ b.cell? ⟨X, 0, none⟩ = some (.int .i64 W) ∧ b.cell? ⟨X, 1, none⟩ = some (.int .i64 H) ∧ b.cell? ⟨X, 2, none⟩ = some (.slice ao n cap) ∧ b.cell? ⟨X, 3, none⟩ = some (.slice bo n bcap) ∧ b.cell? ⟨lb, lo + i, none⟩ = some (.int .i64 x) ∧ b.cell? ⟨lb, lo + j, none⟩ = some (.int .i64 y) := by
  have k := h.1.stays hb
  obtain ⟨c0, c1, c2, c3, _⟩ := k.sb.at hX
  exact ⟨k, c0, c1, c2, c3, by rw [← hx]; exact (k.tile hi).1, by rw [← hy]; exact (k.tile hj).1⟩
theorem ws_arms {p : Prop} (h : WS W H ao n cap Z bo bcap Y lb lo d F g P w wr ∧ p) : Ints wr ao n Z := h.1.sb.arms
theorem ws_ways {p : Prop} (h : WS W H ao n cap Z bo bcap Y lb lo d F g P w wr ∧ p) : Ints wr bo n Y := h.1.sb.ways
theorem ws_of {p : Prop} (h : WS W H ao n cap Z bo bcap Y lb lo d F g P w wr ∧ p) : WS W H ao n cap Z bo bcap Y lb lo d F g P w wr := h.1
end

set_option maxRecDepth 100000 in
set_option maxHeartbeats 25600000 in
theorem walk_goesWays (Wd Hd : Int) (ao : Option Addr) (n cap : Nat) (Z : Nat → Int) (bo : Option Addr) (m bcap : Nat) (Y : Nat → Int) (hn : n ≤ 9223372036854775807) (hm : m ≤ 9223372036854775807) (t fr : Int) (co : Option Addr) (q ccap : Nat) (T : Nat → Int) (hq : q ≤ 9223372036854775807) (w : World) (hI : Ints w ao n Z) (hB : Ints w bo m Y) (hT : Ints w co q T) :
    Calls Try.prog 14 #[rv Wd Hd (.slice ao n cap) (.slice bo m bcap), .int .i64 t, .int .i64 fr, .slice co q ccap] w fun r w' => r = .returned (.bool true) ∧ Below w.heap.size w w' := by
  obtain ⟨D, e, hG⟩ := GIs.ex Wd Hd n m Z Y t fr T q
  have HG := hid hG
  have hlen := hG.len
  have HS := hid (sb_start (W := Wd) (H := Hd) (cap := cap) (bcap := bcap) hI hB)
  have HT := hid hT
  clear hI hB hT hG
  obtain ⟨X, hX⟩ : ∃ X, X = w.heap.size := ⟨_, rfl⟩
  have HX := hid hX
  by_cases hf : Far n m
  · have HF := hid hf
    clear hf
    go_enter Try.func14, Try.ntmps14
    go_wp2_with fail
    refine (far_yes Wd Hd ao n cap bo m bcap hn hm HF.out _).mono ?_
    rintro r w1 ⟨rfl, hb1⟩
    have HS1 := hid (HS.out.stays hb1)
    clear hb1
    go_wp2_with fail

    refine (known_any _).mono ?_
    rintro r w9 ⟨rfl, hb9⟩
    have HS9 := hid (HS1.out.stays hb9)
    clear hb9
    go_wp2_with fail
    go_ret
    exact ⟨rfl, HS9.out.below⟩
  · have HF : Hid (n ≤ 4000 ∧ m ≤ 4000) := hid (by unfold Far at hf; omega)
    clear hf
    by_cases hq2 : q ≤ 4000
    · have q4 : (q : Int) ≤ 4000 := by omega
      go_enter Try.func14, Try.ntmps14
      go_wp2_with fail
      refine (far_no Wd Hd ao n cap bo m bcap HF.out _).mono ?_
      rintro r w1 ⟨rfl, hb1⟩
      have HS1 := hid (HS.out.stays hb1)
      clear hb1
      obtain ⟨c0, c1, c2, c3, hz1⟩ := HS1.out.at HX.out
      have HT1 := hid (HT.out.stays (HS1.out.below))
      simp only [← hX] at c0 c1 c2 c3 ⊢
      clear HS hX
      go_wp2_with fail

      refine (drive_to Wd Hd ao n cap Z bo m bcap Y hn hm t fr co q ccap T hq HG.out _ HS1.out.arms HS1.out.ways HT1.out).mono ?_
      rintro r w2 ⟨al, cl, rfl, hrow, hb2⟩
      have HS2 := hid (HS1.out.stays hb2)
      have HI2 := hid (ints_of_row hrow rfl)
      obtain ⟨c0, c1, c2, c3, hz2⟩ := HS2.out.at HX.out
      clear hb2 hrow HS1 HT1 hz1 HT
      rcases HG.out with ⟨he, _, hD⟩ | ⟨he, hA, hq1, hD⟩
      · subst hD
        have e0 : (e != 0) = true := by simpa using he
        have hl : ([] : List Int).length = 0 := rfl
        simp only [hl]
        clear he
        go_wp2_with fail
        refine (known_any _).mono ?_
        rintro r w9 ⟨rfl, hb9⟩
        have HS9 := hid (HS2.out.stays hb9)
        clear hb9
        go_wp2_with fail
        go_ret
        exact ⟨rfl, HS9.out.below⟩
      · subst he
        obtain ⟨hR, ⟨ht0, ht1⟩, f0, f1⟩ := hA.right
        obtain rfl : n = m := hR.eq
        have HR := hid hR
        have HF0 := hid (verr_ok hR)
        obtain ⟨d, hd⟩ : ∃ d, d = D.length := ⟨_, rfl⟩
        have hd1 : 1 ≤ d := by rw [hd, hD]; simp
        have hd2 : d ≤ q + 1 := by rw [hd, hD]; have := rest_len Wd Hd Z Y T q 0 t fr; simp; omega
        have HL := hid (linked_rest (Z := Z) (Y := Y) (T := T) hR.sized hR.args.arms q 0 t fr ⟨ht0, ht1⟩ f1)
        have HD := hid hD
        have HDL := hid hd
        rw [← hd] at HI2 ⊢
        clear hA hR hD hd hlen
        go_wp2_with fail
        refine (parts_to Wd Hd ao n cap Z bo n bcap Y hn hm 0 HF0.out _ HS2.out.arms HS2.out.ways).mono ?_
        rintro r w3 ⟨hb3, (⟨h, _⟩ | ⟨_, g, P, rfl, hrowp, hp⟩)⟩
        · exact absurd rfl h
        have HS3 := hid (HS2.out.stays hb3)
        have HI3 := hid (HI2.out.stays hb3)
        have HP3 := hid (ints_row hrowp)
        have HAT := hid (Linked.at HR.out.sized HR.out.args.arms hp HL.out)
        clear hb3 hrowp hp HS2 HI2 c0 c1 c2 c3 hz2 HL
        obtain ⟨lb, lo, hal, hlz, hc0⟩ := ints_cell HI3.out (j := 0) (by omega)
        subst hal
        obtain ⟨c0, c1, c2, c3, hz3⟩ := HS3.out.at HX.out
        have hD0 : D.getD 0 0 = t := by rw [HD.out]; rfl
        rw [Nat.add_zero, hD0] at hc0
        have g1 : ((d : Int) == 0) = false := by simp; omega
        have hqw : IntKind.i64.wrap ((q : Int) + 1) = ((q + 1 : Nat) : Int) := by rw [IntKind.wrap_i64]; omega
        have g2 : decide (q + 1 < d) = false := decide_eq_false (by omega)
        have g3 : decide (((q + 1 : Nat) : Int) < (d : Int)) = false := decide_eq_false (by omega)
        clear hD0
        go_wp2_with fail
        have HAT2 : Hid (∀ j : Nat, j + 1 < d → (0 ≤ D.getD j 0 ∧ D.getD j 0 < n) ∧ (0 ≤ D.getD (j + 1) 0 ∧ D.getD (j + 1) 0 < n) ∧ P (D.getD (j + 1) 0).toNat = P t.toNat ∧ ∃ s : Nat, s ≤ 3 ∧ met Wd Hd Z (D.getD j 0) s = D.getD (j + 1) 0 ∧ lets (Y (D.getD j 0).toNat) s = true ∧ lets (Y (D.getD (j + 1) 0).toNat) s = true) := hid (fun j hj => by
          have h := HAT.out j (by have h1 := HDL.out; rw [HD.out] at h1; simp only [List.length_cons] at h1; omega)
          rw [← HD.out] at h
          exact h)
        have HWS := hid (WS.mk HS3.out HI3.out HP3.out)
        clear HAT HS3 HI3 HP3 hc0 hlz c0 c1 c2 c3 hz3 g1 g2 g3 hqw
        obtain ⟨F, hF⟩ : ∃ F : Nat → Int, F = fun j => D.getD j 0 := ⟨_, rfl⟩
        have HFF := hid hF
        rw [← hF] at HWS
        clear hF
        go_loopw [13] (fun iv wr => ∃ i : Nat, 1 ≤ i ∧ i ≤ d ∧ iv = .int .i64 i ∧ Hid (WS Wd Hd ao n cap Z bo bcap Y lb lo d F g P w wr)) (fun iv _ => d - (intOf iv).toNat)
        case atStart => exact ⟨1, by omega, by omega, rfl, HWS⟩
        case round =>
          obtain ⟨i, hi1, hi2, rfl, HWR⟩ := hrel
          clear HWS
          have hdn : d ≤ 4001 := by omega
          have hiw : IntKind.i64.wrap ((i : Int) + 1) = ((i + 1 : Nat) : Int) := by rw [IntKind.wrap_i64]; omega
          by_cases hlt : i < d
          · obtain ⟨j, hj⟩ : ∃ j, i = j + 1 := ⟨i - 1, by omega⟩
            have hjw : IntKind.i64.wrap ((i : Int) - 1) = (j : Int) := by rw [IntKind.wrap_i64]; omega
            have hjd : j < d := by omega
            obtain ⟨⟨a0, a1⟩, ⟨b0, b1⟩, hpp, s0, hs3, hmt, hl1, hl2⟩ := HAT2.out j (by omega)
            obtain ⟨a, ha⟩ := Int.eq_ofNat_of_zero_le a0
            obtain ⟨b, hb⟩ := Int.eq_ofNat_of_zero_le b0
            have HFA : Hid (F j = (a : Int)) := hid (by rw [HFF.out]; exact ha)
            have HFB : Hid (F i = (b : Int)) := hid (by rw [HFF.out, hj]; exact hb)
            rw [ha] at a1 hmt hl1
            rw [hb] at b1 hmt hl2 hpp
            simp only [Int.toNat_natCast] at hl1 hl2 hpp
            have HMT := hid hmt
            have HL1 := hid hl1
            have HL2 := hid hl2
            have HPP := hid hpp
            have an0 : (0 : Int) ≤ (a : Int) := by omega
            have bn0 : (0 : Int) ≤ (b : Int) := by omega
            have HJ := hid hj
            clear a0 b0 ha hb hmt hl1 hl2 hpp hj
            have id1 : (i : Int) < (d : Int) := by omega
            have jd1 : (j : Int) < (d : Int) := by omega
            have in0 : (0 : Int) ≤ (i : Int) := by omega
            have jn0 : (0 : Int) ≤ (j : Int) := by omega
            go_wp2_with fail
            go_loopw [14, 81] (fun ov iv wr => ∃ (k : Nat) (o : Bool), k ≤ 4 ∧ iv = .int .i64 k ∧ ov = .bool o ∧ Hid (s0 < k → o = true) ∧ Hid (WS Wd Hd ao n cap Z bo bcap Y lb lo d F g P w wr)) (fun _ iv _ => 4 - (intOf iv).toNat)
            case atStart => exact ⟨0, false, by omega, rfl, rfl, hid (fun h => by omega), HWR⟩
            case round =>
              obtain ⟨k, o, hk4, rfl, rfl, HOK, HWK⟩ := hrel
              clear HWR
              by_cases hlk : k < 4
              · have kn0 : (0 : Int) ≤ (k : Int) := by omega
                have kn4 : (k : Int) < 4 := by omega
                have hkw : IntKind.i64.wrap ((k : Int) + 1) = ((k + 1 : Nat) : Int) := by rw [IntKind.wrap_i64]; omega
                obtain ⟨x, hx⟩ : ∃ x, met Wd Hd Z a k = x := ⟨_, rfl⟩
                obtain ⟨bj, hbj⟩ : ∃ bj, bj = decide (0 ≤ x) := ⟨_, rfl⟩
                have HJS : Hid (JIs Wd Hd n n Z Y a k bj 0) := hid ⟨.inr (.inr ⟨rfl, terr_ok HR.out ⟨an0, a1⟩, by omega, by omega⟩), fun h => absurd rfl h, fun _ => by rw [hbj, hx]; simp⟩
                have HX2 := hid hx
                have HBJ := hid hbj
                obtain ⟨c0, c1, c2, c3, hz⟩ := HWK.out.sb.at HX.out
                obtain ⟨ca, lz⟩ := HWK.out.tile hjd
                obtain ⟨cb, _⟩ := HWK.out.tile hlt
                rw [HFA.out] at ca
                rw [HFB.out] at cb
                clear hx hbj
                go_wp2_with fail
                go_region_held3 (fun w' => WS Wd Hd ao n cap Z bo bcap Y lb lo d F g P w w' ∧ w'.cell? ⟨X, 0, none⟩ = some (.int .i64 Wd) ∧ w'.cell? ⟨X, 1, none⟩ = some (.int .i64 Hd) ∧ w'.cell? ⟨X, 2, none⟩ = some (.slice ao n cap) ∧ w'.cell? ⟨X, 3, none⟩ = some (.slice bo n bcap) ∧ w'.cell? ⟨lb, lo + j, none⟩ = some (.int .i64 a) ∧ w'.cell? ⟨lb, lo + i, none⟩ = some (.int .i64 b))
                  (first
                    | exact ws_keep HX.out hjd hlt HFA.out HFB.out (And.intro HWK.out trivial) ((Below.refl _ _).drew)
                    | exact ws_keep HX.out hjd hlt HFA.out HFB.out (by assumption) hb
                    | assumption)
                  (first
                    | (go_at_call 29; (refine (joined_to Wd Hd ao n cap Z bo n bcap Y hn hm a k bj 0 HJS.out _ (ws_arms (by assumption)) (ws_ways (by assumption))).mono ?_); rintro r w7 ⟨rfl, hb⟩))
                have H7 : Hid (WS Wd Hd ao n cap Z bo bcap Y lb lo d F g P w w7) := hid (ws_of (by assumption))
                clear c0 c1 c2 c3 hz ca lz cb HWK
                rename_i hHH
                clear hb hHH
                obtain ⟨c0, c1, c2, c3, hz⟩ := H7.out.sb.at HX.out
                obtain ⟨ca, lz⟩ := H7.out.tile hjd
                obtain ⟨cb, _⟩ := H7.out.tile hlt
                rw [HFA.out] at ca
                rw [HFB.out] at cb
                cases bj
                · go_wp2_with fail
                  refine wp_region_held_drew (S := (fun _ => True)) (by kernel_rfl) (trivial) (fun hHeld => ?_)
                  refine wpAnyH_take (i := 0) (oi := { dst := some 95, op := Op.move (Operand.tmp 17), type := 27, pos := "law.go:169", after := #[], guard := none }) (v := ?_) rfl (by kernel_rfl) (by kernel_rfl) (by kernel_rfl) (fun _ _ _ h => h) (Or.inl ⟨by rfl, ?_⟩) (by assumption) ?_
                  rotate_left
                  · intro w hSw; (try dsimp only at hSw); go_simp; try (with_reducible rfl)
                  try simp only [Act.put, List.setIfInBounds_toArray, List.set_cons_zero, List.set_cons_succ]
                  refine wpAnyH_take (i := 1) (oi := { dst := some 96, op := Op.binOp BinOp.eql 27 (Operand.tmp 95) (Operand.const (Value.int IntKind.i64 0)) 27, type := 4, pos := "law.go:169", after := #[{ on := 0, ground := Ground.data }], guard := none }) (v := ?_) rfl (by kernel_rfl) (by kernel_rfl) (by kernel_rfl) (fun _ _ _ h => h) (Or.inl ⟨by rfl, ?_⟩) (by assumption) ?_
                  rotate_left
                  · intro w hSw; (try dsimp only at hSw); go_simp; try (with_reducible rfl)
                  try simp only [Act.put, List.setIfInBounds_toArray, List.set_cons_zero, List.set_cons_succ]
                  refine wpAnyH_take (i := 2) (oi := { dst := some 97, op := Op.move (Operand.tmp 96), type := 4, pos := "law.go:169", after := #[{ on := 1, ground := Ground.data }], guard := none }) (v := ?_) rfl (by kernel_rfl) (by kernel_rfl) (by kernel_rfl) (fun _ _ _ h => h) (Or.inl ⟨by rfl, ?_⟩) (by assumption) ?_
                  rotate_left
                  · intro w hSw; (try dsimp only at hSw); go_simp; try (with_reducible rfl)
                  try simp only [Act.put, List.setIfInBounds_toArray, List.set_cons_zero, List.set_cons_succ]
                  refine wpAnyH_take (i := 3) (oi := { dst := some 98, op := Op.move (Operand.tmp 16), type := 4, pos := "law.go:169", after := #[{ on := 2, ground := Ground.guard }], guard := some (2, true) }) (v := ?_) rfl (by kernel_rfl) (by kernel_rfl) (by kernel_rfl) (fun _ _ _ h => h) (Or.inl ⟨by rfl, ?_⟩) (by assumption) ?_
                  rotate_left
                  · intro w hSw; (try dsimp only at hSw); go_simp; try (with_reducible rfl)
                  try simp only [Act.put, List.setIfInBounds_toArray, List.set_cons_zero, List.set_cons_succ]
                  refine wpAnyH_take (i := 4) (oi := { dst := some 99, op := Op.pick (Operand.tmp 97) (Operand.tmp 98) (Operand.const (Value.bool false)), type := 4, pos := "law.go:169", after := #[{ on := 2, ground := Ground.data }, { on := 3, ground := Ground.data }], guard := none }) (v := ?_) rfl (by kernel_rfl) (by kernel_rfl) (by kernel_rfl) (fun _ _ _ h => h) (Or.inl ⟨by rfl, ?_⟩) (by assumption) ?_
                  rotate_left
                  · intro w hSw; (try dsimp only at hSw); go_simp; try (with_reducible rfl)
                  try simp only [Act.put, List.setIfInBounds_toArray, List.set_cons_zero, List.set_cons_succ]
                  refine wpAnyH_take (i := 5) (oi := { dst := some 100, op := Op.move (Operand.tmp 99), type := 4, pos := "law.go:169", after := #[{ on := 4, ground := Ground.data }, { on := 2, ground := Ground.chain }], guard := none }) (v := ?_) rfl (by kernel_rfl) (by kernel_rfl) (by kernel_rfl) (fun _ _ _ h => h) (Or.inl ⟨by rfl, ?_⟩) (by assumption) ?_
                  rotate_left
                  · intro w hSw; (try dsimp only at hSw); go_simp; try (with_reducible rfl)
                  try simp only [Act.put, List.setIfInBounds_toArray, List.set_cons_zero, List.set_cons_succ]
                  refine wpAnyH_take (i := 6) (oi := { dst := some 101, op := Op.fieldAddr 24 (Operand.tmp 4) 0, type := 0, pos := "law.go:169", after := #[{ on := 5, ground := Ground.guard }], guard := some (5, true) }) (v := undef) rfl (by kernel_rfl) (by kernel_rfl) (by kernel_rfl) (fun _ _ _ h => h) (Or.inr ⟨by rfl, rfl⟩) (by assumption) ?_
                  try simp only [Act.put, List.setIfInBounds_toArray, List.set_cons_zero, List.set_cons_succ]
                  refine wpAnyH_take (i := 7) (oi := { dst := some 102, op := Op.load 3 (Operand.tmp 101), type := 3, pos := "law.go:169", after := #[{ on := 6, ground := Ground.data }, { on := 5, ground := Ground.guard }], guard := some (5, true) }) (v := undef) rfl (by kernel_rfl) (by kernel_rfl) (by kernel_rfl) (fun _ _ _ h => h) (Or.inr ⟨by rfl, rfl⟩) (by assumption) ?_
                  try simp only [Act.put, List.setIfInBounds_toArray, List.set_cons_zero, List.set_cons_succ]
                  refine wpAnyH_take (i := 8) (oi := { dst := some 103, op := Op.fieldAddr 24 (Operand.tmp 4) 1, type := 0, pos := "law.go:169", after := #[{ on := 5, ground := Ground.guard }], guard := some (5, true) }) (v := undef) rfl (by kernel_rfl) (by kernel_rfl) (by kernel_rfl) (fun _ _ _ h => h) (Or.inr ⟨by rfl, rfl⟩) (by assumption) ?_
                  try simp only [Act.put, List.setIfInBounds_toArray, List.set_cons_zero, List.set_cons_succ]
                  refine wpAnyH_take (i := 9) (oi := { dst := some 104, op := Op.load 3 (Operand.tmp 103), type := 3, pos := "law.go:169", after := #[{ on := 8, ground := Ground.data }, { on := 5, ground := Ground.guard }], guard := some (5, true) }) (v := undef) rfl (by kernel_rfl) (by kernel_rfl) (by kernel_rfl) (fun _ _ _ h => h) (Or.inr ⟨by rfl, rfl⟩) (by assumption) ?_
                  try simp only [Act.put, List.setIfInBounds_toArray, List.set_cons_zero, List.set_cons_succ]
                  refine wpAnyH_take (i := 10) (oi := { dst := some 105, op := Op.move (Operand.tmp 9), type := 22, pos := "law.go:169", after := #[{ on := 5, ground := Ground.guard }], guard := some (5, true) }) (v := undef) rfl (by kernel_rfl) (by kernel_rfl) (by kernel_rfl) (fun _ _ _ h => h) (Or.inr ⟨by rfl, rfl⟩) (by assumption) ?_
                  try simp only [Act.put, List.setIfInBounds_toArray, List.set_cons_zero, List.set_cons_succ]
                  refine wpAnyH_take (i := 11) (oi := { dst := some 106, op := Op.move (Operand.tmp 13), type := 3, pos := "law.go:169", after := #[{ on := 5, ground := Ground.guard }], guard := some (5, true) }) (v := undef) rfl (by kernel_rfl) (by kernel_rfl) (by kernel_rfl) (fun _ _ _ h => h) (Or.inr ⟨by rfl, rfl⟩) (by assumption) ?_
                  try simp only [Act.put, List.setIfInBounds_toArray, List.set_cons_zero, List.set_cons_succ]
                  refine wpAnyH_take (i := 12) (oi := { dst := some 107, op := Op.binOp BinOp.sub 3 (Operand.tmp 106) (Operand.const (Value.int IntKind.i64 1)) 3, type := 3, pos := "law.go:169", after := #[{ on := 11, ground := Ground.data }, { on := 5, ground := Ground.guard }], guard := some (5, true) }) (v := undef) rfl (by kernel_rfl) (by kernel_rfl) (by kernel_rfl) (fun _ _ _ h => h) (Or.inr ⟨by rfl, rfl⟩) (by assumption) ?_
                  try simp only [Act.put, List.setIfInBounds_toArray, List.set_cons_zero, List.set_cons_succ]
                  refine wpAnyH_take (i := 13) (oi := { dst := some 108, op := Op.indexAddr 22 (Operand.tmp 105) (Operand.tmp 107), type := 0, pos := "law.go:169", after := #[{ on := 10, ground := Ground.data }, { on := 12, ground := Ground.data }, { on := 5, ground := Ground.guard }], guard := some (5, true) }) (v := undef) rfl (by kernel_rfl) (by kernel_rfl) (by kernel_rfl) (fun _ _ _ h => h) (Or.inr ⟨by rfl, rfl⟩) (by assumption) ?_
                  try simp only [Act.put, List.setIfInBounds_toArray, List.set_cons_zero, List.set_cons_succ]
                  refine wpAnyH_take (i := 14) (oi := { dst := some 109, op := Op.load 3 (Operand.tmp 108), type := 3, pos := "law.go:169", after := #[{ on := 13, ground := Ground.data }, { on := 5, ground := Ground.guard }], guard := some (5, true) }) (v := undef) rfl (by kernel_rfl) (by kernel_rfl) (by kernel_rfl) (fun _ _ _ h => h) (Or.inr ⟨by rfl, rfl⟩) (by assumption) ?_
                  try simp only [Act.put, List.setIfInBounds_toArray, List.set_cons_zero, List.set_cons_succ]
                  refine wpAnyH_take (i := 15) (oi := { dst := some 110, op := Op.move (Operand.tmp 15), type := 3, pos := "law.go:169", after := #[{ on := 5, ground := Ground.guard }], guard := some (5, true) }) (v := undef) rfl (by kernel_rfl) (by kernel_rfl) (by kernel_rfl) (fun _ _ _ h => h) (Or.inr ⟨by rfl, rfl⟩) (by assumption) ?_
                  try simp only [Act.put, List.setIfInBounds_toArray, List.set_cons_zero, List.set_cons_succ]
                  refine wpAnyH_take (i := 16) (oi := { dst := some 111, op := Op.call { callee := Callee.value (Operand.func 31), args := #[Operand.tmp 102, Operand.tmp 104, Operand.tmp 109, Operand.tmp 110], argTypes := #[3, 3, 3, 3] }, type := 3, pos := "law.go:169", after := #[{ on := 7, ground := Ground.data }, { on := 9, ground := Ground.data }, { on := 14, ground := Ground.data }, { on := 15, ground := Ground.data }, { on := 5, ground := Ground.chain }, { on := 5, ground := Ground.guard }], guard := some (5, true) }) (v := undef) rfl (by kernel_rfl) (by kernel_rfl) (by kernel_rfl) (fun _ _ _ h => h) (Or.inr ⟨by rfl, rfl⟩) (by assumption) ?_
                  try simp only [Act.put, List.setIfInBounds_toArray, List.set_cons_zero, List.set_cons_succ]
                  refine wpAnyH_take (i := 17) (oi := { dst := some 112, op := Op.move (Operand.tmp 9), type := 22, pos := "law.go:169", after := #[{ on := 5, ground := Ground.guard }], guard := some (5, true) }) (v := undef) rfl (by kernel_rfl) (by kernel_rfl) (by kernel_rfl) (fun _ _ _ h => h) (Or.inr ⟨by rfl, rfl⟩) (by assumption) ?_
                  try simp only [Act.put, List.setIfInBounds_toArray, List.set_cons_zero, List.set_cons_succ]
                  refine wpAnyH_take (i := 18) (oi := { dst := some 113, op := Op.move (Operand.tmp 13), type := 3, pos := "law.go:169", after := #[{ on := 5, ground := Ground.guard }], guard := some (5, true) }) (v := undef) rfl (by kernel_rfl) (by kernel_rfl) (by kernel_rfl) (fun _ _ _ h => h) (Or.inr ⟨by rfl, rfl⟩) (by assumption) ?_
                  try simp only [Act.put, List.setIfInBounds_toArray, List.set_cons_zero, List.set_cons_succ]
                  refine wpAnyH_take (i := 19) (oi := { dst := some 114, op := Op.indexAddr 22 (Operand.tmp 112) (Operand.tmp 113), type := 0, pos := "law.go:169", after := #[{ on := 17, ground := Ground.data }, { on := 18, ground := Ground.data }, { on := 5, ground := Ground.guard }], guard := some (5, true) }) (v := undef) rfl (by kernel_rfl) (by kernel_rfl) (by kernel_rfl) (fun _ _ _ h => h) (Or.inr ⟨by rfl, rfl⟩) (by assumption) ?_
                  try simp only [Act.put, List.setIfInBounds_toArray, List.set_cons_zero, List.set_cons_succ]
                  refine wpAnyH_take (i := 20) (oi := { dst := some 115, op := Op.load 3 (Operand.tmp 114), type := 3, pos := "law.go:169", after := #[{ on := 19, ground := Ground.data }, { on := 5, ground := Ground.guard }], guard := some (5, true) }) (v := undef) rfl (by kernel_rfl) (by kernel_rfl) (by kernel_rfl) (fun _ _ _ h => h) (Or.inr ⟨by rfl, rfl⟩) (by assumption) ?_
                  try simp only [Act.put, List.setIfInBounds_toArray, List.set_cons_zero, List.set_cons_succ]
                  refine wpAnyH_take (i := 21) (oi := { dst := some 116, op := Op.binOp BinOp.eql 3 (Operand.tmp 111) (Operand.tmp 115) 3, type := 4, pos := "law.go:169", after := #[{ on := 16, ground := Ground.data }, { on := 20, ground := Ground.data }, { on := 5, ground := Ground.guard }], guard := some (5, true) }) (v := undef) rfl (by kernel_rfl) (by kernel_rfl) (by kernel_rfl) (fun _ _ _ h => h) (Or.inr ⟨by rfl, rfl⟩) (by assumption) ?_
                  try simp only [Act.put, List.setIfInBounds_toArray, List.set_cons_zero, List.set_cons_succ]
                  refine wpAnyH_take (i := 22) (oi := { dst := some 117, op := Op.pick (Operand.tmp 100) (Operand.tmp 116) (Operand.const (Value.bool false)), type := 4, pos := "law.go:169", after := #[{ on := 5, ground := Ground.data }, { on := 21, ground := Ground.data }], guard := none }) (v := ?_) rfl (by kernel_rfl) (by kernel_rfl) (by kernel_rfl) (fun _ _ _ h => h) (Or.inl ⟨by rfl, ?_⟩) (by assumption) ?_
                  rotate_left
                  · intro w hSw; (try dsimp only at hSw); go_simp; try (with_reducible rfl)
                  try simp only [Act.put, List.setIfInBounds_toArray, List.set_cons_zero, List.set_cons_succ]
                  refine wpAnyH_done (by kernel_rfl) ?_ _
                  go_wp2_with fail
                  go_roundw
                  case rel => exact ⟨k + 1, o, by omega, by first | rfl | simp only [hkw], rfl, hid (fun hs => by
                    by_cases es : s0 = k
                    · subst es
                      have h1 := HX2.out
                      have h2 := HMT.out
                      have h3 := of_decide_eq_false HBJ.out.symm
                      omega
                    · exact HOK.out (by omega)), hid (H7.out.stays ((Below.refl _ _).drew))⟩
                  case measure => simp only [intOf]; omega
                · have hx0 : 0 ≤ x := of_decide_eq_true HBJ.out.symm
                  obtain ⟨u, hu⟩ := Int.eq_ofNat_of_zero_le hx0
                  have HBY : Hid (bey Wd Hd a k = u) := hid (by have h := HX2.out; rw [← hu, ← h]; exact (met_yes (by rw [h]; exact hx0)).1.symm)
                  have HU := hid hu
                  have un0 : (0 : Int) ≤ (u : Int) := by omega
                  clear hu hx0
                  by_cases hub : u = b
                  · have e1 : ((u : Int) == (b : Int)) = true := by simp; omega
                    have HUB := hid hub
                    clear hub
                    go_wp2_with fail
                    go_region_held3 (fun w' => WS Wd Hd ao n cap Z bo bcap Y lb lo d F g P w w' ∧ w'.cell? ⟨X, 0, none⟩ = some (.int .i64 Wd) ∧ w'.cell? ⟨X, 1, none⟩ = some (.int .i64 Hd) ∧ w'.cell? ⟨X, 2, none⟩ = some (.slice ao n cap) ∧ w'.cell? ⟨X, 3, none⟩ = some (.slice bo n bcap) ∧ w'.cell? ⟨lb, lo + j, none⟩ = some (.int .i64 a) ∧ w'.cell? ⟨lb, lo + i, none⟩ = some (.int .i64 b))
                      (first
                      | exact ws_keep HX.out hjd hlt HFA.out HFB.out (And.intro H7.out trivial) ((Below.refl _ _).drew)
                      | exact ws_keep HX.out hjd hlt HFA.out HFB.out (by assumption) hb
                      | exact ws_keep HX.out hjd hlt HFA.out HFB.out (by assumption) (Below.refl _ _)
                      | assumption)
                      (first
                      | (go_at_call 31; (refine (refbeyond_any Wd Hd a k u HR.out.sized an0 (by rw [← HR.out.args.arms]; exact a1) (by omega) (by omega) HBY.out _).mono ?_); rintro r w8 ⟨rfl, hb⟩))
                    have H8 : Hid (WS Wd Hd ao n cap Z bo bcap Y lb lo d F g P w w8) := hid (ws_of (by assumption))
                    rename_i hHH
                    clear hb hHH c0 c1 c2 c3 hz ca lz cb H7
                    have han : a < n := by omega
                    have hbn : b < n := by omega
                    obtain ⟨yb, yo, hbo, hyz, cya⟩ := ints_cell H8.out.sb.ways han
                    subst hbo
                    obtain ⟨yb2, yo2, hbo2, _, cyb⟩ := ints_cell H8.out.sb.ways hbn
                    cases hbo2
                    obtain ⟨c0, c1, c2, c3, hz⟩ := H8.out.sb.at HX.out
                    obtain ⟨ca, lz⟩ := H8.out.tile hjd
                    obtain ⟨cb, _⟩ := H8.out.tile hlt
                    rw [HFA.out] at ca
                    rw [HFB.out] at cb
                    obtain ⟨ya, hya⟩ : ∃ ya, ya = Y a := ⟨_, rfl⟩
                    obtain ⟨yc, hyc⟩ : ∃ yc, yc = Y b := ⟨_, rfl⟩
                    rw [← hya] at cya
                    rw [← hyc] at cyb
                    have HYA := hid hya
                    have HYC := hid hyc
                    clear hya hyc
                    go_wp2_with fail
                    go_quiet (fail)
                    have H9 := hid (H8.out.stays (Joins.below_draws _ _ nq))
                    have fa : ya = 0 ∨ ya = 1 ∨ ya = 2 := by rw [HYA.out]; have := (HR.out.args.fine a han).2; omega
                    have fc : yc = 0 ∨ yc = 1 ∨ yc = 2 := by rw [HYC.out]; have := (HR.out.args.fine b hbn).2; omega
                    clear cya cyb c0 c1 c2 c3 hz ca lz cb hyz H8
                    generalize World.drewN _ _ = w9 at H9 ⊢
                    cases o
                    · rcases fa with rfl | rfl | rfl <;> rcases fc with rfl | rfl | rfl <;> by_cases hk2 : k < 2
                      all_goals
                        have e2 : decide ((k : Int) < 2) = decide (k < 2) := by rw [decide_eq_decide]; omega
                        simp only [hk2] at e2
                        go_wp2_with fail
                        go_roundw
                        case rel =>
                          refine ⟨k + 1, _, by omega, by first | rfl | simp only [hkw], rfl, hid (fun hs => ?_), H9⟩
                          first
                            | rfl
                            | (exfalso
                               by_cases es : s0 = k
                               · subst es
                                 have h1 := HL1.out
                                 have h2 := HL2.out
                                 rw [← HYA.out] at h1
                                 rw [← HYC.out] at h2
                                 unfold lets at h1 h2
                                 rw [decide_eq_true_iff] at h1 h2
                                 omega
                               · have h0 := HOK.out (by omega)
                                 cases h0)
                        case measure => simp only [intOf]; omega
                    · go_wp2_with fail
                      go_roundw
                      case rel => exact ⟨k + 1, true, by omega, by first | rfl | simp only [hkw], rfl, hid (fun _ => rfl), H9⟩
                      case measure => simp only [intOf]; omega
                  · have e1 : ((u : Int) == (b : Int)) = false := by simp; omega
                    have HUB := hid hub
                    clear hub
                    go_wp2_with fail
                    go_region_held3 (fun w' => WS Wd Hd ao n cap Z bo bcap Y lb lo d F g P w w' ∧ w'.cell? ⟨X, 0, none⟩ = some (.int .i64 Wd) ∧ w'.cell? ⟨X, 1, none⟩ = some (.int .i64 Hd) ∧ w'.cell? ⟨X, 2, none⟩ = some (.slice ao n cap) ∧ w'.cell? ⟨X, 3, none⟩ = some (.slice bo n bcap) ∧ w'.cell? ⟨lb, lo + j, none⟩ = some (.int .i64 a) ∧ w'.cell? ⟨lb, lo + i, none⟩ = some (.int .i64 b))
                      (first
                      | exact ws_keep HX.out hjd hlt HFA.out HFB.out (And.intro H7.out trivial) ((Below.refl _ _).drew)
                      | exact ws_keep HX.out hjd hlt HFA.out HFB.out (by assumption) hb
                      | exact ws_keep HX.out hjd hlt HFA.out HFB.out (by assumption) (Below.refl _ _)
                      | assumption)
                      (first
                      | (go_at_call 31; (refine (refbeyond_any Wd Hd a k u HR.out.sized an0 (by rw [← HR.out.args.arms]; exact a1) (by omega) (by omega) HBY.out _).mono ?_); rintro r w8 ⟨rfl, hb⟩))
                    have H8 : Hid (WS Wd Hd ao n cap Z bo bcap Y lb lo d F g P w w8) := hid (ws_of (by assumption))
                    go_wp2_with fail
                    go_roundw
                    case rel => exact ⟨k + 1, o, by omega, by first | rfl | simp only [hkw], rfl, hid (fun hs => by
                      by_cases es : s0 = k
                      · subst es
                        have h1 := HX2.out
                        have h2 := HMT.out
                        have h3 := HU.out
                        have h4 := HUB.out
                        omega
                      · exact HOK.out (by omega)), H8⟩
                    case measure => simp only [intOf]; omega
              · obtain rfl : k = 4 := by omega
                obtain rfl : o = true := HOK.out (by omega)
                obtain ⟨tn, htn⟩ := Int.eq_ofNat_of_zero_le ht0
                obtain ⟨cb, lz⟩ := HWK.out.tile hlt
                rw [HFB.out] at cb
                obtain ⟨p1, gz⟩ := HWK.out.part (j := b) (by omega)
                obtain ⟨p2, _⟩ := HWK.out.part (j := tn) (by omega)
                have hv : P b = P tn := by have h := HPP.out; rw [htn] at h; exact h
                rw [hv] at p1
                obtain ⟨v, hve⟩ : ∃ v, v = P tn := ⟨_, rfl⟩
                rw [← hve] at p1 p2
                clear hv hve
                subst htn
                go_wp2_with fail
                go_quiet (fail)
                go_wp2_with fail
                go_roundw
                case rel => exact ⟨i + 1, by omega, by omega, by first | rfl | simp only [hiw], hid (HWK.out.stays (Joins.below_draws _ _ _))⟩
                case measure => simp only [intOf]; omega
          · obtain rfl : d = i := by omega
            go_wp2_with fail
            refine (known_any _).mono ?_
            rintro r w9 ⟨rfl, hb9⟩
            have HS9 := hid (HWR.out.sb.stays hb9)
            clear hb9
            go_wp2_with fail
            go_ret
            exact ⟨rfl, HS9.out.below⟩
    · have q4 : (4000 : Int) < (q : Int) := by omega
      clear hq2
      go_enter Try.func14, Try.ntmps14
      go_wp2_with fail
      refine (far_no Wd Hd ao n cap bo m bcap HF.out _).mono ?_
      rintro r w1 ⟨rfl, hb1⟩
      have HS1 := hid (HS.out.stays hb1)
      clear hb1
      go_wp2_with fail

      refine (known_any _).mono ?_
      rintro r w9 ⟨rfl, hb9⟩
      have HS9 := hid (HS1.out.stays hb9)
      clear hb9
      go_wp2_with fail
      go_ret
      exact ⟨rfl, HS9.out.below⟩
end Go.Proofs.Ytaepiegbpgkciaa
