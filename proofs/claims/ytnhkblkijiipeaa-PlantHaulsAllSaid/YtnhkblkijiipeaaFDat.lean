/-
  Plants told by what they say, not by where their lists lie; the walk of same.Plant.
-/
import Derived.Test.YtnhkblkijiipeaaFCpy
namespace Go.Proofs.Ytnhkblkijiipeaa
open Go.RowKit

/-- What a plant says. -/
structure Da where
  k : Int
  t : Int
  l : Int
  n : Nat
  S : Nat → Int
  R : Nat → Int
  M : Nat → Int
  V : Nat → Int
  g : Int
  i : Int
  o : Bool
/-- A list says that. -/
structure LIs (l : Li) (n : Nat) (Z : Nat → Int) : Prop where
  len : l.n = n
  at' : ∀ j, j < n → l.Z j = Z j
/-- A plant says that. -/
structure Is (p : Pl) (d : Da) : Prop where
  k : p.k = d.k
  t : p.t = d.t
  l : p.l = d.l
  st : LIs p.st d.n d.S
  re : LIs p.re d.n d.R
  ma : LIs p.ma d.n d.M
  mo : LIs p.mo d.n d.V
  g : p.g = d.g
  i : p.i = d.i
  o : p.o = d.o
def zeroD : Da := ⟨0, 0, 0, 0, fun _ => 0, fun _ => 0, fun _ => 0, fun _ => 0, 0, 0, false⟩
def zeroP : Pl := ⟨0, 0, 0, ⟨none, 0, 0, fun _ => 0⟩, ⟨none, 0, 0, fun _ => 0⟩, ⟨none, 0, 0, fun _ => 0⟩, ⟨none, 0, 0, fun _ => 0⟩, 0, 0, false⟩
theorem zero_is : Is zeroP zeroD := ⟨rfl, rfl, rfl, ⟨rfl, fun _ _ => rfl⟩, ⟨rfl, fun _ _ => rfl⟩, ⟨rfl, fun _ _ => rfl⟩, ⟨rfl, fun _ _ => rfl⟩, rfl, rfl, rfl⟩
theorem zero_at (w : World) : PlAt w zeroP := ⟨fun j hj => absurd hj (Nat.not_lt_zero j), fun j hj => absurd hj (Nat.not_lt_zero j), fun j hj => absurd hj (Nat.not_lt_zero j), fun j hj => absurd hj (Nat.not_lt_zero j)⟩
/-- What a plant says that is right. -/
def dataOf (p : Pl) (n : Nat) : Da := ⟨p.k, p.t, p.l, n, p.st.Z, p.re.Z, p.ma.Z, p.mo.Z, p.g, p.i, p.o⟩
theorem Plant.is {n : Nat} {p : Pl} (h : Plant n p) : Is p (dataOf p n) := ⟨rfl, rfl, rfl, ⟨h.st.len, fun _ _ => rfl⟩, ⟨h.re.len, fun _ _ => rfl⟩, ⟨h.ma.len, fun _ _ => rfl⟩, ⟨h.mo.len, fun _ _ => rfl⟩, rfl, rfl, rfl⟩
/-- What is said is right, for n makes. -/
structure DOk (d : Da) : Prop where
  t : 0 ≤ d.t ∧ d.t ≤ 1000000
  l : 1 ≤ d.l ∧ d.l ≤ 64
  S : ∀ j, j < d.n → 0 ≤ d.S j ∧ d.S j ≤ 1000000
  R : ∀ j, j < d.n → 0 ≤ d.R j ∧ d.R j ≤ 7
  M : ∀ j, j < d.n → 0 ≤ d.M j ∧ d.M j ≤ 1000000
  V : ∀ j, j < d.n → 0 ≤ d.V j ∧ d.V j ≤ 1000000
  g : 0 ≤ d.g ∧ d.g ≤ 1000000
  i : 0 ≤ d.i ∧ d.i ≤ 1000000
theorem Plant.ok {n : Nat} {p : Pl} (h : Plant n p) : DOk (dataOf p n) := ⟨h.t, h.l, h.st.z, h.re.z, h.ma.z, h.mo.z, h.g, h.i⟩
theorem LIs.cnt {l : Li} {n : Nat} {Z : Nat → Int} {b : Int} (h : LIs l n Z) (hz : ∀ j, j < n → 0 ≤ Z j ∧ Z j ≤ b) : Cnt l n b := ⟨h.len, fun j hj => by rw [h.at' j hj]; exact hz j hj⟩
theorem Is.plant {p : Pl} {d : Da} (h : Is p d) (hd : DOk d) : Plant d.n p :=
  ⟨by rw [h.t]; exact hd.t, by rw [h.l]; exact hd.l, h.st.cnt hd.S, h.re.cnt hd.R, h.ma.cnt hd.M, h.mo.cnt hd.V, by rw [h.g]; exact hd.g, by rw [h.i]; exact hd.i⟩
/-- What is said is right among kinds. -/
structure DRight (m : Nat) (K : Nat → Kd) (d : Da) (k : Nat) : Prop where
  ks : Kinds m K
  e0 : KErr m K = 0
  kp : d.k = k
  lt : k < m
  n : d.n = (K k).mn
  ok : DOk d
theorem Right.data {m : Nat} {K : Nat → Kd} {p : Pl} {k : Nat} (h : Right m K p k) : DRight m K (dataOf p (K k).mn) k := ⟨h.ks, h.e0, h.kp, h.lt, rfl, h.pl.ok⟩
theorem DRight.right {m : Nat} {K : Nat → Kd} {d : Da} {k : Nat} (h : DRight m K d k) {p : Pl} (hp : Is p d) : Right m K p k := ⟨h.ks, h.e0, hp.k.trans h.kp, h.lt, h.n ▸ hp.plant h.ok⟩
theorem Is.small {p : Pl} {d : Da} (h : Is p d) (hn : d.n ≤ 1000) : SmallP p := ⟨by rw [h.st.len]; exact hn, by rw [h.re.len]; exact hn, by rw [h.ma.len]; exact hn, by rw [h.mo.len]; exact hn⟩
theorem own4_is {p : Pl} {d : Da} (h : Is p d) (a1 a2 a3 a4 : Option Addr) (c1 c2 c3 c4 : Nat) : Is (own4 p a1 a2 a3 a4 c1 c2 c3 c4) d := ⟨h.k, h.t, h.l, ⟨h.st.len, h.st.at'⟩, ⟨h.re.len, h.re.at'⟩, ⟨h.ma.len, h.ma.at'⟩, ⟨h.mo.len, h.mo.at'⟩, h.g, h.i, h.o⟩
set_option maxHeartbeats 1600000 in
theorem ints_same (ao bo : Option Addr) (n c1 c2 : Nat) (Z : Nat → Int) (hn : n ≤ 1000000) (w : World) (h : Ints w ao n Z) (h' : Ints w bo n Z) :
    Calls Try.prog 27 #[.slice ao n c1, .slice bo n c2] w fun e w' => e = .returned (.bool true) ∧ Below w.heap.size w w' := by
  have H := hid h
  have H' := hid h'
  clear h h'
  go_enter Try.func27, Try.ntmps27
  go_wp2
  go_loopw [5] (fun iv wr => ∃ j : Nat, j ≤ n ∧ iv = .int .i64 j ∧ Hid (Below w.heap.size w wr)) (fun iv _ => n - (intOf iv).toNat)
  case atStart => exact ⟨0, Nat.zero_le _, rfl, hid (Below.refl _ _)⟩
  case round =>
    obtain ⟨j, hj, rfl, HS⟩ := hrel
    by_cases hlt : j < n
    · obtain ⟨g, o, rfl, hz, hc⟩ := H.out.stays HS.out j hlt
      obtain ⟨g', o', rfl, hz', hc'⟩ := H'.out.stays HS.out j hlt
      simp only at hc hc'
      obtain ⟨x, hx⟩ : ∃ x, Z j = x := ⟨_, rfl⟩
      rw [hx] at hc hc'
      have HD := hid HS.out.drew
      clear hx
      go_upto_region 6 with fail
      go_region_held3 (fun w' => w'.cell? ⟨g, o + j, none⟩ = some (.int .i64 x) ∧ w'.cell? ⟨g', o' + j, none⟩ = some (.int .i64 x))
        (go_keep)
        (fail)
      clear hc hc'
      go_wp2_with fail
      go_roundw
      case rel => exact ⟨j + 1, by omega, by go_num, HD⟩
      case measure => simp [intOf]; omega
    · obtain rfl : n = j := by omega
      go_wp2_with fail
      go_ret
      exact ⟨rfl, HS.out⟩
theorem LIs.ints {l : Li} {n : Nat} {Z : Nat → Int} {w : World} (h : LIs l n Z) (hl : LiAt w l) : Ints w l.a n Z := fun j hj => by
  obtain ⟨b, off, e, hz, hc⟩ := hl j (by rw [h.len]; exact hj)
  exact ⟨b, off, e, hz, by show _ = some (Value.int .i64 (Z j)); rw [← h.at' j hj]; exact hc⟩
/-- What lies in memory while two plants are held side by side. -/
structure S2 (k t l : Int) (n : Nat) (g i : Int) (o : Bool) (S R M V : Nat → Int) (a1 a2 a3 a4 b1 b2 b3 b4 : Option Addr) (ac1 ac2 ac3 ac4 bc1 bc2 bc3 bc4 : Nat) (B : Nat) (w wr : World) : Prop where
  below : Below B w wr
  le : B ≤ wr.heap.size
  bx : wr.heap[B]? = some (.cells #[.int .i64 k, .int .i64 t, .int .i64 l, .slice a1 n ac1, .slice a2 n ac2, .slice a3 n ac3, .slice a4 n ac4, .int .i64 g, .int .i64 i, .bool o] 25 (0, 0))
  by' : wr.heap[B + 1]? = some (.cells #[.int .i64 k, .int .i64 t, .int .i64 l, .slice b1 n bc1, .slice b2 n bc2, .slice b3 n bc3, .slice b4 n bc4, .int .i64 g, .int .i64 i, .bool o] 25 (0, 0))
  i1 : Ints wr a1 n S
  i2 : Ints wr a2 n R
  i3 : Ints wr a3 n M
  i4 : Ints wr a4 n V
  j1 : Ints wr b1 n S
  j2 : Ints wr b2 n R
  j3 : Ints wr b3 n M
  j4 : Ints wr b4 n V
theorem S2.stays {k t l : Int} {n : Nat} {g i : Int} {o : Bool} {S R M V : Nat → Int} {a1 a2 a3 a4 b1 b2 b3 b4 : Option Addr} {ac1 ac2 ac3 ac4 bc1 bc2 bc3 bc4 : Nat} {B : Nat} {w wr w' : World} (h : S2 k t l n g i o S R M V a1 a2 a3 a4 b1 b2 b3 b4 ac1 ac2 ac3 ac4 bc1 bc2 bc3 bc4 B w wr) (hb : Below wr.heap.size wr w') : S2 k t l n g i o S R M V a1 a2 a3 a4 b1 b2 b3 b4 ac1 ac2 ac3 ac4 bc1 bc2 bc3 bc4 B w w' :=
  ⟨h.below.trans (hb.mono h.le), Nat.le_trans h.le hb.size, (hb.block _ (heap_lt h.bx)).trans h.bx, (hb.block _ (heap_lt h.by')).trans h.by', h.i1.stays hb, h.i2.stays hb, h.i3.stays hb, h.i4.stays hb, h.j1.stays hb, h.j2.stays hb, h.j3.stays hb, h.j4.stays hb⟩
set_option maxRecDepth 100000 in
set_option maxHeartbeats 12800000 in
theorem same_raw (k t l : Int) (n : Nat) (g i : Int) (o : Bool) (S R M V : Nat → Int) (a1 a2 a3 a4 b1 b2 b3 b4 : Option Addr) (ac1 ac2 ac3 ac4 bc1 bc2 bc3 bc4 : Nat) (hn : n ≤ 1000) (w : World) (i1 : Ints w a1 n S) (i2 : Ints w a2 n R) (i3 : Ints w a3 n M) (i4 : Ints w a4 n V) (j1 : Ints w b1 n S) (j2 : Ints w b2 n R) (j3 : Ints w b3 n M) (j4 : Ints w b4 n V) :
    Calls Try.prog 19 #[.agg #[.int .i64 k, .int .i64 t, .int .i64 l, .slice a1 n ac1, .slice a2 n ac2, .slice a3 n ac3, .slice a4 n ac4, .int .i64 g, .int .i64 i, .bool o], .agg #[.int .i64 k, .int .i64 t, .int .i64 l, .slice b1 n bc1, .slice b2 n bc2, .slice b3 n bc3, .slice b4 n bc4, .int .i64 g, .int .i64 i, .bool o]] w fun e w' => e = .returned (.bool true) ∧ Below w.heap.size w w' := by
  have hb := Joins.below_alloc2 w (.cells #[.int .i64 k, .int .i64 t, .int .i64 l, .slice a1 n ac1, .slice a2 n ac2, .slice a3 n ac3, .slice a4 n ac4, .int .i64 g, .int .i64 i, .bool o] 25) (.cells #[.int .i64 k, .int .i64 t, .int .i64 l, .slice b1 n bc1, .slice b2 n bc2, .slice b3 n bc3, .slice b4 n bc4, .int .i64 g, .int .i64 i, .bool o] 25)
  have H0 : Hid (S2 k t l n g i o S R M V a1 a2 a3 a4 b1 b2 b3 b4 ac1 ac2 ac3 ac4 bc1 bc2 bc3 bc4 w.heap.size w ((w.alloc (.cells #[.int .i64 k, .int .i64 t, .int .i64 l, .slice a1 n ac1, .slice a2 n ac2, .slice a3 n ac3, .slice a4 n ac4, .int .i64 g, .int .i64 i, .bool o] 25)).alloc (.cells #[.int .i64 k, .int .i64 t, .int .i64 l, .slice b1 n bc1, .slice b2 n bc2, .slice b3 n bc3, .slice b4 n bc4, .int .i64 g, .int .i64 i, .bool o] 25))) := hid ⟨hb, hb.size, (Below.heap_alloc _ _ _ (by simp)).trans (heap_new _ _), by
    have := heap_new (w.alloc (.cells #[.int .i64 k, .int .i64 t, .int .i64 l, .slice a1 n ac1, .slice a2 n ac2, .slice a3 n ac3, .slice a4 n ac4, .int .i64 g, .int .i64 i, .bool o] 25)) (.cells #[.int .i64 k, .int .i64 t, .int .i64 l, .slice b1 n bc1, .slice b2 n bc2, .slice b3 n bc3, .slice b4 n bc4, .int .i64 g, .int .i64 i, .bool o] 25); rwa [World.size_alloc] at this, i1.stays hb, i2.stays hb, i3.stays hb, i4.stays hb, j1.stays hb, j2.stays hb, j3.stays hb, j4.stays hb⟩
  have HC1 := hid (fun W h h' => ints_same a1 b1 n ac1 bc1 S (by omega) W h h')
  have HC2 := hid (fun W h h' => ints_same a2 b2 n ac2 bc2 R (by omega) W h h')
  have HC3 := hid (fun W h h' => ints_same a3 b3 n ac3 bc3 M (by omega) W h h')
  have HC4 := hid (fun W h h' => ints_same a4 b4 n ac4 bc4 V (by omega) W h h')
  obtain ⟨B, hB⟩ : ∃ B, w.heap.size = B := ⟨_, rfl⟩
  rw [hB] at H0 ⊢
  clear i1 i2 i3 i4 j1 j2 j3 j4 hb
  have k1 : (k == k) = true := by simp
  have k2 : (t == t) = true := by simp
  have k3 : (l == l) = true := by simp
  have k4 : (g == g) = true := by simp
  have k5 : (i == i) = true := by simp
  go_enter Try.func19, Try.ntmps19
  go_upto_region 1 with fail
  clear hB
  generalize World.alloc (World.alloc w _) _ = w1 at H0 ⊢
  have p0 : World.cell? _ ⟨B, 0, none⟩ = some (.int .i64 k) := cell_of_row _ (B) 0 _ _ _ H0.out.bx; have p1 : World.cell? _ ⟨B, 1, none⟩ = some (.int .i64 t) := cell_of_row _ (B) 1 _ _ _ H0.out.bx; have p2 : World.cell? _ ⟨B, 2, none⟩ = some (.int .i64 l) := cell_of_row _ (B) 2 _ _ _ H0.out.bx; have p3 : World.cell? _ ⟨B, 3, none⟩ = some (.slice a1 n ac1) := cell_of_row _ (B) 3 _ _ _ H0.out.bx; have p4 : World.cell? _ ⟨B, 4, none⟩ = some (.slice a2 n ac2) := cell_of_row _ (B) 4 _ _ _ H0.out.bx; have p5 : World.cell? _ ⟨B, 5, none⟩ = some (.slice a3 n ac3) := cell_of_row _ (B) 5 _ _ _ H0.out.bx; have p6 : World.cell? _ ⟨B, 6, none⟩ = some (.slice a4 n ac4) := cell_of_row _ (B) 6 _ _ _ H0.out.bx; have p7 : World.cell? _ ⟨B, 7, none⟩ = some (.int .i64 g) := cell_of_row _ (B) 7 _ _ _ H0.out.bx; have p8 : World.cell? _ ⟨B, 8, none⟩ = some (.int .i64 i) := cell_of_row _ (B) 8 _ _ _ H0.out.bx; have p9 : World.cell? _ ⟨B, 9, none⟩ = some (.bool o) := cell_of_row _ (B) 9 _ _ _ H0.out.bx; have q0 : World.cell? _ ⟨B + 1, 0, none⟩ = some (.int .i64 k) := cell_of_row _ (B + 1) 0 _ _ _ H0.out.by'; have q1 : World.cell? _ ⟨B + 1, 1, none⟩ = some (.int .i64 t) := cell_of_row _ (B + 1) 1 _ _ _ H0.out.by'; have q2 : World.cell? _ ⟨B + 1, 2, none⟩ = some (.int .i64 l) := cell_of_row _ (B + 1) 2 _ _ _ H0.out.by'; have q3 : World.cell? _ ⟨B + 1, 3, none⟩ = some (.slice b1 n bc1) := cell_of_row _ (B + 1) 3 _ _ _ H0.out.by'; have q4 : World.cell? _ ⟨B + 1, 4, none⟩ = some (.slice b2 n bc2) := cell_of_row _ (B + 1) 4 _ _ _ H0.out.by'; have q5 : World.cell? _ ⟨B + 1, 5, none⟩ = some (.slice b3 n bc3) := cell_of_row _ (B + 1) 5 _ _ _ H0.out.by'; have q6 : World.cell? _ ⟨B + 1, 6, none⟩ = some (.slice b4 n bc4) := cell_of_row _ (B + 1) 6 _ _ _ H0.out.by'; have q7 : World.cell? _ ⟨B + 1, 7, none⟩ = some (.int .i64 g) := cell_of_row _ (B + 1) 7 _ _ _ H0.out.by'; have q8 : World.cell? _ ⟨B + 1, 8, none⟩ = some (.int .i64 i) := cell_of_row _ (B + 1) 8 _ _ _ H0.out.by'; have q9 : World.cell? _ ⟨B + 1, 9, none⟩ = some (.bool o) := cell_of_row _ (B + 1) 9 _ _ _ H0.out.by'
  go_wp2_with (first
    | (go_at_call 27; with_reducible refine (HC1.out _ H0.out.i1 H0.out.j1).mono ?_; rintro e w2 ⟨rfl, hb⟩; have H1 := hid (H0.out.stays hb); clear p0 q0 p1 q1 p2 q2 p3 q3 p4 q4 p5 q5 p6 q6 p7 q7 p8 q8 p9 q9; clear hb; have p0 : World.cell? _ ⟨B, 0, none⟩ = some (.int .i64 k) := cell_of_row _ (B) 0 _ _ _ H1.out.bx; have p1 : World.cell? _ ⟨B, 1, none⟩ = some (.int .i64 t) := cell_of_row _ (B) 1 _ _ _ H1.out.bx; have p2 : World.cell? _ ⟨B, 2, none⟩ = some (.int .i64 l) := cell_of_row _ (B) 2 _ _ _ H1.out.bx; have p3 : World.cell? _ ⟨B, 3, none⟩ = some (.slice a1 n ac1) := cell_of_row _ (B) 3 _ _ _ H1.out.bx; have p4 : World.cell? _ ⟨B, 4, none⟩ = some (.slice a2 n ac2) := cell_of_row _ (B) 4 _ _ _ H1.out.bx; have p5 : World.cell? _ ⟨B, 5, none⟩ = some (.slice a3 n ac3) := cell_of_row _ (B) 5 _ _ _ H1.out.bx; have p6 : World.cell? _ ⟨B, 6, none⟩ = some (.slice a4 n ac4) := cell_of_row _ (B) 6 _ _ _ H1.out.bx; have p7 : World.cell? _ ⟨B, 7, none⟩ = some (.int .i64 g) := cell_of_row _ (B) 7 _ _ _ H1.out.bx; have p8 : World.cell? _ ⟨B, 8, none⟩ = some (.int .i64 i) := cell_of_row _ (B) 8 _ _ _ H1.out.bx; have p9 : World.cell? _ ⟨B, 9, none⟩ = some (.bool o) := cell_of_row _ (B) 9 _ _ _ H1.out.bx; have q0 : World.cell? _ ⟨B + 1, 0, none⟩ = some (.int .i64 k) := cell_of_row _ (B + 1) 0 _ _ _ H1.out.by'; have q1 : World.cell? _ ⟨B + 1, 1, none⟩ = some (.int .i64 t) := cell_of_row _ (B + 1) 1 _ _ _ H1.out.by'; have q2 : World.cell? _ ⟨B + 1, 2, none⟩ = some (.int .i64 l) := cell_of_row _ (B + 1) 2 _ _ _ H1.out.by'; have q3 : World.cell? _ ⟨B + 1, 3, none⟩ = some (.slice b1 n bc1) := cell_of_row _ (B + 1) 3 _ _ _ H1.out.by'; have q4 : World.cell? _ ⟨B + 1, 4, none⟩ = some (.slice b2 n bc2) := cell_of_row _ (B + 1) 4 _ _ _ H1.out.by'; have q5 : World.cell? _ ⟨B + 1, 5, none⟩ = some (.slice b3 n bc3) := cell_of_row _ (B + 1) 5 _ _ _ H1.out.by'; have q6 : World.cell? _ ⟨B + 1, 6, none⟩ = some (.slice b4 n bc4) := cell_of_row _ (B + 1) 6 _ _ _ H1.out.by'; have q7 : World.cell? _ ⟨B + 1, 7, none⟩ = some (.int .i64 g) := cell_of_row _ (B + 1) 7 _ _ _ H1.out.by'; have q8 : World.cell? _ ⟨B + 1, 8, none⟩ = some (.int .i64 i) := cell_of_row _ (B + 1) 8 _ _ _ H1.out.by'; have q9 : World.cell? _ ⟨B + 1, 9, none⟩ = some (.bool o) := cell_of_row _ (B + 1) 9 _ _ _ H1.out.by')
    | (go_at_call 27; with_reducible refine (HC2.out _ H1.out.i2 H1.out.j2).mono ?_; rintro e w3 ⟨rfl, hb⟩; have H2 := hid (H1.out.stays hb); clear p0 q0 p1 q1 p2 q2 p3 q3 p4 q4 p5 q5 p6 q6 p7 q7 p8 q8 p9 q9; clear hb; have p0 : World.cell? _ ⟨B, 0, none⟩ = some (.int .i64 k) := cell_of_row _ (B) 0 _ _ _ H2.out.bx; have p1 : World.cell? _ ⟨B, 1, none⟩ = some (.int .i64 t) := cell_of_row _ (B) 1 _ _ _ H2.out.bx; have p2 : World.cell? _ ⟨B, 2, none⟩ = some (.int .i64 l) := cell_of_row _ (B) 2 _ _ _ H2.out.bx; have p3 : World.cell? _ ⟨B, 3, none⟩ = some (.slice a1 n ac1) := cell_of_row _ (B) 3 _ _ _ H2.out.bx; have p4 : World.cell? _ ⟨B, 4, none⟩ = some (.slice a2 n ac2) := cell_of_row _ (B) 4 _ _ _ H2.out.bx; have p5 : World.cell? _ ⟨B, 5, none⟩ = some (.slice a3 n ac3) := cell_of_row _ (B) 5 _ _ _ H2.out.bx; have p6 : World.cell? _ ⟨B, 6, none⟩ = some (.slice a4 n ac4) := cell_of_row _ (B) 6 _ _ _ H2.out.bx; have p7 : World.cell? _ ⟨B, 7, none⟩ = some (.int .i64 g) := cell_of_row _ (B) 7 _ _ _ H2.out.bx; have p8 : World.cell? _ ⟨B, 8, none⟩ = some (.int .i64 i) := cell_of_row _ (B) 8 _ _ _ H2.out.bx; have p9 : World.cell? _ ⟨B, 9, none⟩ = some (.bool o) := cell_of_row _ (B) 9 _ _ _ H2.out.bx; have q0 : World.cell? _ ⟨B + 1, 0, none⟩ = some (.int .i64 k) := cell_of_row _ (B + 1) 0 _ _ _ H2.out.by'; have q1 : World.cell? _ ⟨B + 1, 1, none⟩ = some (.int .i64 t) := cell_of_row _ (B + 1) 1 _ _ _ H2.out.by'; have q2 : World.cell? _ ⟨B + 1, 2, none⟩ = some (.int .i64 l) := cell_of_row _ (B + 1) 2 _ _ _ H2.out.by'; have q3 : World.cell? _ ⟨B + 1, 3, none⟩ = some (.slice b1 n bc1) := cell_of_row _ (B + 1) 3 _ _ _ H2.out.by'; have q4 : World.cell? _ ⟨B + 1, 4, none⟩ = some (.slice b2 n bc2) := cell_of_row _ (B + 1) 4 _ _ _ H2.out.by'; have q5 : World.cell? _ ⟨B + 1, 5, none⟩ = some (.slice b3 n bc3) := cell_of_row _ (B + 1) 5 _ _ _ H2.out.by'; have q6 : World.cell? _ ⟨B + 1, 6, none⟩ = some (.slice b4 n bc4) := cell_of_row _ (B + 1) 6 _ _ _ H2.out.by'; have q7 : World.cell? _ ⟨B + 1, 7, none⟩ = some (.int .i64 g) := cell_of_row _ (B + 1) 7 _ _ _ H2.out.by'; have q8 : World.cell? _ ⟨B + 1, 8, none⟩ = some (.int .i64 i) := cell_of_row _ (B + 1) 8 _ _ _ H2.out.by'; have q9 : World.cell? _ ⟨B + 1, 9, none⟩ = some (.bool o) := cell_of_row _ (B + 1) 9 _ _ _ H2.out.by')
    | (go_at_call 27; with_reducible refine (HC3.out _ H2.out.i3 H2.out.j3).mono ?_; rintro e w4 ⟨rfl, hb⟩; have H3 := hid (H2.out.stays hb); clear p0 q0 p1 q1 p2 q2 p3 q3 p4 q4 p5 q5 p6 q6 p7 q7 p8 q8 p9 q9; clear hb; have p0 : World.cell? _ ⟨B, 0, none⟩ = some (.int .i64 k) := cell_of_row _ (B) 0 _ _ _ H3.out.bx; have p1 : World.cell? _ ⟨B, 1, none⟩ = some (.int .i64 t) := cell_of_row _ (B) 1 _ _ _ H3.out.bx; have p2 : World.cell? _ ⟨B, 2, none⟩ = some (.int .i64 l) := cell_of_row _ (B) 2 _ _ _ H3.out.bx; have p3 : World.cell? _ ⟨B, 3, none⟩ = some (.slice a1 n ac1) := cell_of_row _ (B) 3 _ _ _ H3.out.bx; have p4 : World.cell? _ ⟨B, 4, none⟩ = some (.slice a2 n ac2) := cell_of_row _ (B) 4 _ _ _ H3.out.bx; have p5 : World.cell? _ ⟨B, 5, none⟩ = some (.slice a3 n ac3) := cell_of_row _ (B) 5 _ _ _ H3.out.bx; have p6 : World.cell? _ ⟨B, 6, none⟩ = some (.slice a4 n ac4) := cell_of_row _ (B) 6 _ _ _ H3.out.bx; have p7 : World.cell? _ ⟨B, 7, none⟩ = some (.int .i64 g) := cell_of_row _ (B) 7 _ _ _ H3.out.bx; have p8 : World.cell? _ ⟨B, 8, none⟩ = some (.int .i64 i) := cell_of_row _ (B) 8 _ _ _ H3.out.bx; have p9 : World.cell? _ ⟨B, 9, none⟩ = some (.bool o) := cell_of_row _ (B) 9 _ _ _ H3.out.bx; have q0 : World.cell? _ ⟨B + 1, 0, none⟩ = some (.int .i64 k) := cell_of_row _ (B + 1) 0 _ _ _ H3.out.by'; have q1 : World.cell? _ ⟨B + 1, 1, none⟩ = some (.int .i64 t) := cell_of_row _ (B + 1) 1 _ _ _ H3.out.by'; have q2 : World.cell? _ ⟨B + 1, 2, none⟩ = some (.int .i64 l) := cell_of_row _ (B + 1) 2 _ _ _ H3.out.by'; have q3 : World.cell? _ ⟨B + 1, 3, none⟩ = some (.slice b1 n bc1) := cell_of_row _ (B + 1) 3 _ _ _ H3.out.by'; have q4 : World.cell? _ ⟨B + 1, 4, none⟩ = some (.slice b2 n bc2) := cell_of_row _ (B + 1) 4 _ _ _ H3.out.by'; have q5 : World.cell? _ ⟨B + 1, 5, none⟩ = some (.slice b3 n bc3) := cell_of_row _ (B + 1) 5 _ _ _ H3.out.by'; have q6 : World.cell? _ ⟨B + 1, 6, none⟩ = some (.slice b4 n bc4) := cell_of_row _ (B + 1) 6 _ _ _ H3.out.by'; have q7 : World.cell? _ ⟨B + 1, 7, none⟩ = some (.int .i64 g) := cell_of_row _ (B + 1) 7 _ _ _ H3.out.by'; have q8 : World.cell? _ ⟨B + 1, 8, none⟩ = some (.int .i64 i) := cell_of_row _ (B + 1) 8 _ _ _ H3.out.by'; have q9 : World.cell? _ ⟨B + 1, 9, none⟩ = some (.bool o) := cell_of_row _ (B + 1) 9 _ _ _ H3.out.by')
    | (go_at_call 27; with_reducible refine (HC4.out _ H3.out.i4 H3.out.j4).mono ?_; rintro e w5 ⟨rfl, hb⟩; have H4 := hid (H3.out.stays hb); clear p0 q0 p1 q1 p2 q2 p3 q3 p4 q4 p5 q5 p6 q6 p7 q7 p8 q8 p9 q9; clear hb; have p0 : World.cell? _ ⟨B, 0, none⟩ = some (.int .i64 k) := cell_of_row _ (B) 0 _ _ _ H4.out.bx; have p1 : World.cell? _ ⟨B, 1, none⟩ = some (.int .i64 t) := cell_of_row _ (B) 1 _ _ _ H4.out.bx; have p2 : World.cell? _ ⟨B, 2, none⟩ = some (.int .i64 l) := cell_of_row _ (B) 2 _ _ _ H4.out.bx; have p3 : World.cell? _ ⟨B, 3, none⟩ = some (.slice a1 n ac1) := cell_of_row _ (B) 3 _ _ _ H4.out.bx; have p4 : World.cell? _ ⟨B, 4, none⟩ = some (.slice a2 n ac2) := cell_of_row _ (B) 4 _ _ _ H4.out.bx; have p5 : World.cell? _ ⟨B, 5, none⟩ = some (.slice a3 n ac3) := cell_of_row _ (B) 5 _ _ _ H4.out.bx; have p6 : World.cell? _ ⟨B, 6, none⟩ = some (.slice a4 n ac4) := cell_of_row _ (B) 6 _ _ _ H4.out.bx; have p7 : World.cell? _ ⟨B, 7, none⟩ = some (.int .i64 g) := cell_of_row _ (B) 7 _ _ _ H4.out.bx; have p8 : World.cell? _ ⟨B, 8, none⟩ = some (.int .i64 i) := cell_of_row _ (B) 8 _ _ _ H4.out.bx; have p9 : World.cell? _ ⟨B, 9, none⟩ = some (.bool o) := cell_of_row _ (B) 9 _ _ _ H4.out.bx; have q0 : World.cell? _ ⟨B + 1, 0, none⟩ = some (.int .i64 k) := cell_of_row _ (B + 1) 0 _ _ _ H4.out.by'; have q1 : World.cell? _ ⟨B + 1, 1, none⟩ = some (.int .i64 t) := cell_of_row _ (B + 1) 1 _ _ _ H4.out.by'; have q2 : World.cell? _ ⟨B + 1, 2, none⟩ = some (.int .i64 l) := cell_of_row _ (B + 1) 2 _ _ _ H4.out.by'; have q3 : World.cell? _ ⟨B + 1, 3, none⟩ = some (.slice b1 n bc1) := cell_of_row _ (B + 1) 3 _ _ _ H4.out.by'; have q4 : World.cell? _ ⟨B + 1, 4, none⟩ = some (.slice b2 n bc2) := cell_of_row _ (B + 1) 4 _ _ _ H4.out.by'; have q5 : World.cell? _ ⟨B + 1, 5, none⟩ = some (.slice b3 n bc3) := cell_of_row _ (B + 1) 5 _ _ _ H4.out.by'; have q6 : World.cell? _ ⟨B + 1, 6, none⟩ = some (.slice b4 n bc4) := cell_of_row _ (B + 1) 6 _ _ _ H4.out.by'; have q7 : World.cell? _ ⟨B + 1, 7, none⟩ = some (.int .i64 g) := cell_of_row _ (B + 1) 7 _ _ _ H4.out.by'; have q8 : World.cell? _ ⟨B + 1, 8, none⟩ = some (.int .i64 i) := cell_of_row _ (B + 1) 8 _ _ _ H4.out.by'; have q9 : World.cell? _ ⟨B + 1, 9, none⟩ = some (.bool o) := cell_of_row _ (B + 1) 9 _ _ _ H4.out.by'))
  go_ret
  exact ⟨rfl, H4.out.below⟩
theorem pv_is {p : Pl} {d : Da} (h : Is p d) : pv p = .agg #[.int .i64 d.k, .int .i64 d.t, .int .i64 d.l, .slice p.st.a d.n p.st.c, .slice p.re.a d.n p.re.c, .slice p.ma.a d.n p.ma.c, .slice p.mo.a d.n p.mo.c, .int .i64 d.g, .int .i64 d.i, .bool d.o] := by
  show Value.agg #[.int .i64 p.k, .int .i64 p.t, .int .i64 p.l, .slice p.st.a p.st.n p.st.c, .slice p.re.a p.re.n p.re.c, .slice p.ma.a p.ma.n p.ma.c, .slice p.mo.a p.mo.n p.mo.c, .int .i64 p.g, .int .i64 p.i, .bool p.o] = _
  rw [h.k, h.t, h.l, h.st.len, h.re.len, h.ma.len, h.mo.len, h.g, h.i, h.o]
theorem sameplant_any (a b : Pl) (d : Da) (ha : Is a d) (hb : Is b d) (hn : d.n ≤ 1000) (w : World) (hA : PlAt w a) (hB : PlAt w b) :
    Calls Try.prog 19 #[pv a, pv b] w fun e w' => e = .returned (.bool true) ∧ Below w.heap.size w w' := by
  rw [pv_is ha, pv_is hb]
  exact same_raw d.k d.t d.l d.n d.g d.i d.o d.S d.R d.M d.V _ _ _ _ _ _ _ _ _ _ _ _ _ _ _ _ hn w (ha.st.ints hA.st) (ha.re.ints hA.re) (ha.ma.ints hA.ma) (ha.mo.ints hA.mo) (hb.st.ints hB.st) (hb.re.ints hB.re) (hb.ma.ints hB.ma) (hb.mo.ints hB.mo)
end Go.Proofs.Ytnhkblkijiipeaa
