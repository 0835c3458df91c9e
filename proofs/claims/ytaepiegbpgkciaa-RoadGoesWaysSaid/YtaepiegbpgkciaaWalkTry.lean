/-
  The walk of the closure of Parts.
-/
import Derived.Test.YtaepiegbpgkciaaWalkSide
namespace Go.Proofs.Ytaepiegbpgkciaa
open Go.RowKit

set_option maxHeartbeats 6400000 in
theorem try_to (A G E D : Nat) (W H : Int) (ao : Option Addr) (n cap : Nat) (Z : Nat → Int) (bo : Option Addr) (bcap : Nat) (Y P : Nat → Int) (f t : Nat) (L : List Nat) (lst : Value) (hs : Sized W H) (hn : (n : Int) = W * H) (hz : ∀ i, i < n → 0 ≤ Z i ∧ Z i ≤ 15)
    (ht : t < n) (hP : P t = f) (hL : L.length + 1 ≤ n) (s : Int) (hs0 : 0 ≤ s) (hs3 : s ≤ 3) (k : Int) (hk : met W H Z t s = k) (w0 w : World) (h : PS A G E D W H ao n cap Z bo bcap Y P (t :: L) lst w0 w) :
    Calls Try.prog 60 #[.int .i64 s, .pointer (some ⟨D, 0, none⟩), .pointer (some ⟨A, 0, none⟩), .pointer (some ⟨E, 0, none⟩)] w fun r w' =>
      (r = .returned (.bool false) ∧ (∀ u : Nat, k = u → 0 ≤ P u) ∧ PS A G E D W H ao n cap Z bo bcap Y P (t :: L) lst w0 w') ∨
      (r = .returned (.bool true) ∧ ∃ (u : Nat) (lst' : Value), k = u ∧ u < n ∧ P u < 0 ∧ PS A G E D W H ao n cap Z bo bcap Y (upd P u f) (u :: t :: L) lst' w0 w') := by
  obtain ⟨i0, hi, hz0, hz1, hz2⟩ := info_parts info3
  have HIN := hid (And.intro hi (And.intro hz0 (And.intro hz1 hz2)))
  have HS := hid h
  have HSZ := hid hs
  have HN := hid hn
  have HZ := hid hz
  have HP := hid hP
  have HL := hid hL
  have HK := hid hk
  have hn2 : n ≤ 1024 := by have := hs.bound; omega
  obtain ⟨b, c, hl, hct, hbz⟩ := h.top
  obtain ⟨c0, c1, c2, c3, ce, cd, fd, az, ez, dz⟩ := h.cells
  rw [hl] at cd
  have HLS := hid hl
  obtain ⟨q, hq⟩ : ∃ q, q = L.length + 1 := ⟨_, rfl⟩
  obtain ⟨p, hp⟩ : ∃ p, p = L.length := ⟨_, rfl⟩
  rw [← hq] at cd HLS HL
  rw [← hp] at hct
  have HQ := hid hq
  have HPP := hid hp
  have hpq : p < q := by omega
  have hq2 : q ≤ 1024 := by omega
  have hw1 : IntKind.i64.wrap ((q : Int) - 1) = (p : Int) := by rw [IntKind.wrap_i64]; omega
  clear hq hp
  clear hi hz0 hz1 hz2 hz hP hL hk hn h hl
  go_enter Try.func60, Try.ntmps60
  go_wp2_with fail
  refine (join_to W H ao n cap Z bo n bcap Y hs HN.out HZ.out t s ht hs0 hs3 k HK.out w HS.out.arms HS.out.ways).mono ?_
  rintro r w1 ⟨⟨o, rfl, hok⟩, hb1⟩
  have H1 := hid (HS.out.stays hb1)
  clear hb1 HS cd hct hbz c0 c1 c2 c3 ce fd az ez dz
  obtain ⟨c0, c1, c2, c3, ce, cd, fd, az, ez, dz⟩ := H1.out.cells
  rw [HLS.out] at cd
  cases o
  · have hk0 : k < 0 := by
      rcases Int.lt_or_le k 0 with h | h
      · exact h
      · have := hok.2 h; cases this
    have HK0 := hid hk0
    clear hok hk0
    go_wp2_with fail
    go_ret
    exact .inl ⟨rfl, fun u hu => by have := HK0.out; omega, H1.out⟩
  · have hk0 : 0 ≤ k := hok.1 rfl
    have hki : k < n := by rw [HN.out, ← HK.out]; exact met_in hs (by omega) (by rw [← HN.out]; omega) (by rw [HK.out]; exact hk0)
    obtain ⟨u, rfl⟩ := Int.eq_ofNat_of_zero_le hk0
    have hun : u < n := by omega
    clear hok hk0
    obtain ⟨cg, fg, gz⟩ := H1.out.part hun
    obtain ⟨g, hg⟩ : ∃ g, g = P u := ⟨_, rfl⟩
    rw [← hg] at cg
    have HG := hid hg
    clear hg
    by_cases hg0 : 0 ≤ g
    · go_wp2_with fail
      go_ret
      refine .inl ⟨rfl, fun v hv => ?_, H1.out⟩
      obtain rfl : u = v := by omega
      rw [← HG.out]; exact hg0
    · obtain ⟨ct, ft, _⟩ := H1.out.part ht
      rw [HP.out] at ct
      have htu : t ≠ u := fun h => by subst h; have := HG.out; have := HP.out; omega
      have hut : u ≠ t := Ne.symm htu
      have hkeep : ∀ (w' : World) (v : Value), (w'.setCell ⟨G, u, none⟩ v).cell? ⟨G, t, none⟩ = w'.cell? ⟨G, t, none⟩ := fun w' v => by rw [World.cell?_setCell_other]; intro h; cases h; exact htu rfl
      have hGE : G ≠ E := by have := H1.out.ord; omega
      go_wp2_with fail
      go_region_held3 (fun w' => w'.cell? ⟨E, 0, none⟩ = some (.slice (some ⟨G, 0, none⟩) n n) ∧ w'.cell? ⟨G, t, none⟩ = some (.int .i64 f))
        (go_keep)
        (fail)
      have H2 := hid ((H1.out.mark u f).drew)
      clear c0 c1 c2 c3 ce cd fd az ez dz cg fg gz ct ft
      generalize World.drew _ = w2 at H2 ⊢
      obtain ⟨c0, c1, c2, c3, ce, cd, fd, az, ez, dz⟩ := H2.out.cells
      rw [HLS.out] at cd
      have hrow := H2.out.row
      rw [HLS.out] at hrow
      have hq := HQ.out
      simp only [List.length_cons, ← hq] at hrow
      have HROW := hid hrow
      have e0 : (q : Int) = (q : Int) := rfl
      clear hrow hq e0
      go_wp2_with (at_builtin; refine wpList_append_own _ rfl _ _ 22 rfl (D + 1) 3 i0 (.int .i64 0) 1 8 Try.underlying22 HIN.out.1 HIN.out.2.1 HIN.out.2.2.1 HIN.out.2.2.2 rfl (by decide) _ _ _ rfl (HROW.out.alloc _) ⟨w2.heap.size, 0, none⟩ 1 1 [.int .i64 u] rfl rfl ?c1 ?c2 ?c3 ?c4 ?c5 ?_)
      case c1 =>
        intro j v hj
        match j, hj with
        | 0, hj => simp at hj; subst hj; simp [Addr.add]
      case c2 => intro v hv; simp at hv; subst hv; rfl
      case c3 => unfold maxLen; omega
      case c4 => omega
      case c5 => simp; omega
      intro v' w5 hown' hgrow _
      rw [← HLS.out] at hgrow
      obtain ⟨cd5, fd5, dz5⟩ := H2.out.boxD _ hgrow
      have H5 := hid (H2.out.app (u := u) (lst' := v') _ hgrow (by simp only [List.length_cons]; rw [← HQ.out]; exact hown'))
      obtain ⟨al, cl, rfl⟩ := row_slice H5.out.row
      clear hown' hgrow c0 c1 c2 c3 ce cd fd az ez dz
      go_wp2_with fail
      go_ret
      exact .inr ⟨rfl, u, _, rfl, hun, by rw [← HG.out]; omega, H5.out⟩
end Go.Proofs.Ytaepiegbpgkciaa
