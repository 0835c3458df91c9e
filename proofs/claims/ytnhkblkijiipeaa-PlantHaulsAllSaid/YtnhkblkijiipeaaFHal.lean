/-
  What is taken out and what is left, as numbers; the law's total.
-/
import Derived.Test.YtnhkblkijiipeaaFRHau
import Derived.Test.YtnhkblkijiipeaaFPrt
namespace Go.Proofs.Ytnhkblkijiipeaa
open Go.RowKit

def sumZ (Z : Nat → Int) : Nat → Int
  | 0 => 0
  | n + 1 => sumZ Z n + Z n
theorem sumZ_bd {Z : Nat → Int} {n : Nat} (h : ∀ j, j < n → 0 ≤ Z j ∧ Z j ≤ 1000000) : 0 ≤ sumZ Z n ∧ sumZ Z n ≤ 1000000 * n := by
  induction n with
  | zero => exact ⟨Int.le_refl _, Int.le_refl _⟩
  | succ n ih =>
    have h1 := ih fun j hj => h j (by omega)
    have h2 := h n (by omega)
    show 0 ≤ sumZ Z n + Z n ∧ sumZ Z n + Z n ≤ 1000000 * ((n + 1 : Nat) : Int)
    omega
theorem sumZ_congr {Z Y : Nat → Int} {n : Nat} (h : ∀ j, j < n → Z j = Y j) : sumZ Z n = sumZ Y n := by
  induction n with
  | zero => rfl
  | succ n ih =>
    show sumZ Z n + Z n = sumZ Y n + Y n
    rw [ih fun j hj => h j (by omega), h n (by omega)]
theorem sumZ_set {Z : Nat → Int} {n j : Nat} {x : Int} (hj : j < n) : sumZ (setF Z j (Z j - x)) n + x = sumZ Z n := by
  induction n with
  | zero => omega
  | succ n ih =>
    show sumZ (setF Z j (Z j - x)) n + setF Z j (Z j - x) n + x = sumZ Z n + Z n
    by_cases e : j = n
    · subst e
      rw [sumZ_congr (Y := Z) (fun i hi => by show (if i = j then _ else _) = _; rw [if_neg (by omega)]), setF_at]
      omega
    · have h1 := ih (by omega)
      have h2 : setF Z j (Z j - x) n = Z n := by show (if n = j then _ else _) = _; rw [if_neg (fun h => e h.symm)]
      rw [h2]
      omega
theorem ha_cases {m : Nat} {K : Nat → Kd} {p : Pl} {cargo n : Int} {D : Da} {u : Int} (h : HaIs m K p cargo n D u 0) :
    ∃ k, Right m K p k ∧ (0 ≤ n ∧ n ≤ 1000000) ∧ (0 ≤ cargo ∧ cargo ≤ 15) ∧ (((∀ j, j < (K k).mn → (K k).C j ≠ cargo) ∧ D = dataOf p (K k).mn ∧ u = 0) ∨ ∃ j, j < (K k).mn ∧ (K k).C j = cargo ∧ D = hauledD (dataOf p (K k).mn) j n ∧ u = min n (p.st.Z j)) := by
  by_cases hu : UErr m K p cargo n = 0
  · obtain ⟨hpe, hn, hc⟩ := uerr_ok hu
    obtain ⟨k, hR⟩ := PErr_right hpe
    refine ⟨k, hR, hn, hc, ?_⟩
    by_cases he : ∃ j, j < (K k).mn ∧ (K k).C j = cargo
    · obtain ⟨j, hj, hcj⟩ := he
      have h1 := h.yes k hR.kp hu j hj hcj
      exact Or.inr ⟨j, hj, hcj, h1.1, h1.2.1⟩
    · have hno : ∀ j, j < (K k).mn → (K k).C j ≠ cargo := fun j hj e => he ⟨j, hj, e⟩
      have h1 := h.no k hR.kp hu hno
      exact Or.inl ⟨hno, h1.1, h1.2.1⟩
  · exact absurd (h.bad hu).2.2.symm hu
theorem ha_err {m : Nat} {K : Nat → Kd} {p : Pl} {cargo n : Int} {D : Da} {u r : Int} (h : HaIs m K p cargo n D u r) (h0 : r ≠ 0) : u = 0 := by
  by_cases hu : UErr m K p cargo n = 0
  · obtain ⟨hpe, hn, hc⟩ := uerr_ok hu
    obtain ⟨k, hR⟩ := PErr_right hpe
    by_cases he : ∃ j, j < (K k).mn ∧ (K k).C j = cargo
    · obtain ⟨j, hj, hcj⟩ := he
      exact absurd (h.yes k hR.kp hu j hj hcj).2.2 h0
    · exact (h.no k hR.kp hu fun j hj e => he ⟨j, hj, e⟩).2.1
  · exact (h.bad hu).2.1
theorem hauled_right {m k j : Nat} {K : Nat → Kd} {p : Pl} {n : Int} (hR : Right m K p k) (hn : 0 ≤ n) : DRight m K (hauledD (dataOf p (K k).mn) j n) k := by
  refine ⟨hR.ks, hR.e0, hR.kp, hR.lt, rfl, ⟨hR.pl.t, hR.pl.l, fun i hi => ?_, hR.pl.re.z, hR.pl.ma.z, fun i hi => ?_, hR.pl.g, hR.pl.i⟩⟩
  · show 0 ≤ (if i = j then p.st.Z j - min n (p.st.Z j) else p.st.Z i) ∧ (if i = j then p.st.Z j - min n (p.st.Z j) else p.st.Z i) ≤ 1000000
    have h1 := hR.pl.st.z i hi
    by_cases e : i = j
    · subst e; rw [if_pos rfl]; omega
    · rw [if_neg e]; exact h1
  · show 0 ≤ (if i = j then min (p.mo.Z j + min n (p.st.Z j)) 1000000 else p.mo.Z i) ∧ (if i = j then min (p.mo.Z j + min n (p.st.Z j)) 1000000 else p.mo.Z i) ≤ 1000000
    have h1 := hR.pl.st.z i hi
    have h2 := hR.pl.mo.z i hi
    by_cases e : i = j
    · subst e; rw [if_pos rfl]; omega
    · rw [if_neg e]; exact h2
theorem ha_all {m : Nat} {K : Nat → Kd} {p p1 : Pl} {cargo n : Int} {D1 D2 D3 : Da} {u1 u2 r2 u3 r3 : Int} (h1 : HaIs m K p cargo n D1 u1 0) (hI : Is p1 D1)
    (h2 : HaIs m K p1 cargo 1000000 D2 u2 r2) (h3 : HaIs m K p cargo 1000000 D3 u3 r3) :
    r2 = 0 ∧ r3 = 0 ∧ (0 ≤ u1 ∧ u1 ≤ n ∧ u1 ≤ 1000000) ∧ (0 ≤ u3 ∧ u3 ≤ 1000000) ∧ u1 + u2 = u3 ∧ ∃ k, Right m K p k ∧ DRight m K D1 k ∧ D2.n = (K k).mn ∧ D3.n = (K k).mn ∧ (∀ j, j < (K k).mn → D2.S j = D3.S j) ∧ sumZ D1.S (K k).mn + u1 = sumZ p.st.Z (K k).mn := by
  obtain ⟨k, hR, hn, hc, hcase⟩ := ha_cases h1
  have hD1 : DRight m K D1 k := by
    rcases hcase with ⟨_, rfl, _⟩ | ⟨j, _, _, rfl, _⟩
    · exact hR.data
    · exact hauled_right hR hn.1
  have hR1 := hD1.right hI
  have e2 : UErr m K p1 cargo 1000000 = 0 := uerr_0 hR1.err (inB_iff.2 ⟨by omega, by omega⟩) (inB_iff.2 hc)
  have e3 : UErr m K p cargo 1000000 = 0 := uerr_0 hR.err (inB_iff.2 ⟨by omega, by omega⟩) (inB_iff.2 hc)
  rcases hcase with ⟨hno, rfl, rfl⟩ | ⟨j, hj, hcj, rfl, rfl⟩
  · obtain ⟨rfl, rfl, rfl⟩ := h2.no k hR1.kp e2 hno
    obtain ⟨rfl, rfl, rfl⟩ := h3.no k hR.kp e3 hno
    exact ⟨rfl, rfl, by omega, by omega, rfl, k, hR, hD1, rfl, rfl, fun j hj => hI.st.at' j hj, Int.add_zero _⟩
  · obtain ⟨rfl, rfl, rfl⟩ := h2.yes k hR1.kp e2 j hj hcj
    obtain ⟨rfl, rfl, rfl⟩ := h3.yes k hR.kp e3 j hj hcj
    have hs := hR.pl.st.z j hj
    have hz : p1.st.Z j = p.st.Z j - min n (p.st.Z j) := (hI.st.at' j hj).trans (setF_at _ _ _)
    refine ⟨rfl, rfl, by omega, by omega, by omega, k, hR, hD1, rfl, rfl, fun i hi => ?_, sumZ_set hj⟩
    show (if i = j then p1.st.Z j - min 1000000 (p1.st.Z j) else p1.st.Z i) = (if i = j then p.st.Z j - min 1000000 (p.st.Z j) else p.st.Z i)
    by_cases e : i = j
    · rw [if_pos e, if_pos e]; omega
    · rw [if_neg e, if_neg e]
      have : p1.st.Z i = setF p.st.Z j (p.st.Z j - min n (p.st.Z j)) i := hI.st.at' i hi
      rw [this]
      show (if i = j then _ else _) = _
      rw [if_neg e]
set_option maxHeartbeats 1600000 in
theorem total_any (ao : Option Addr) (n c : Nat) (Z : Nat → Int) (T : Int) (hn : n ≤ 1000) (hz : ∀ j, j < n → 0 ≤ Z j ∧ Z j ≤ 1000000) (hT : sumZ Z n = T) (w : World) (hI : Ints w ao n Z) :
    Calls Try.prog 26 #[.slice ao n c] w fun e w' => e = .returned (.int .i64 T) ∧ Below w.heap.size w w' := by
  have HI := hid hI
  have HZ := hid hz
  have HT := hid hT
  clear hI hz hT
  go_enter Try.func26, Try.ntmps26
  go_wp2
  go_loop [3, 8] (fun s iv => ∃ k : Nat, k ≤ n ∧ iv = .int .i64 k ∧ s = .int .i64 (sumZ Z k)) (fun _ iv => n - (intOf iv).toNat)
  case atStart => exact ⟨0, Nat.zero_le _, rfl, rfl⟩
  case round =>
    obtain ⟨k, hk, rfl, rfl⟩ := hrel
    by_cases hlt : k < n
    · have hkv : (k : Int) < (n : Int) := by omega
      obtain ⟨b, off, rfl, _, h0⟩ := iat HI.out hlt
      have hb1 := sumZ_bd (n := k) fun j hj => HZ.out j (by omega)
      have hb2 := HZ.out k hlt
      obtain ⟨x, hx⟩ : ∃ x, sumZ Z k = x := ⟨_, rfl⟩
      obtain ⟨y, hy⟩ : ∃ y, Z k = y := ⟨_, rfl⟩
      obtain ⟨s, hs⟩ : ∃ s, sumZ Z (k + 1) = s := ⟨_, rfl⟩
      have hs' : x + y = s := by rw [← hx, ← hy, ← hs]; rfl
      rw [hx] at hb1; rw [hy] at hb2 h0
      have hw : IntKind.i64.wrap (x + y) = s := by rw [hs', IntKind.wrap_i64]; omega
      have HS := hid hs
      rw [hx]
      clear hx hy hs hs'
      go_wp2
      go_round
      case rel => exact ⟨k + 1, by omega, by go_num, by rw [HS.out]⟩
      case measure => simp [intOf]; omega
    · obtain rfl : n = k := by omega
      go_wp2
      go_ret
      exact ⟨by rw [HT.out]; rfl, Below.refl _ _⟩
end Go.Proofs.Ytnhkblkijiipeaa
