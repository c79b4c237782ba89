/- Several texts in one: Plain, VecMath, VecA, SkyA, SkyMath, VecB, VecC, VecD, VecF, VecG, VecE, VecH, VecI, SkyB, SkyC, SkyD, SkyE, SkyF, SkyG. -/
import Derived.WalkKit
import Derived.Laws.BitsAllLaws
import Derived.Test.YtofpjlhoppofdaaGreatDoorChecked
import Derived.Below
import Derived.Laws.StructEq
import Derived.WalkLawsBesides
import Derived.LaidEql
import Derived.Stop.Asserts
import Derived.RowKitTokens
import Derived.Deep.RegionWith
import Derived.Deep.QuietTactic
import Derived.BigQuiet
import Derived.BigRegion
import Derived.Lib.QuietBelow
import Derived.OwnWalk
import Derived.Laws.OwnMore
namespace Go.Proofs.YtofpjlhoppofdaaGreatDoor
open Go.RowKit
theorem yz {p : Prop} (h : p) : Hid p := h
theorem yy {p : Prop} (h : Hid p) : p := h
def byteN (s : ByteArray) (i : Nat) : Nat := if h : i < s.size then s[i].toNat else 0
theorem byteN_lt {s : ByteArray} {k : Nat} (h : k < s.size) : byteN s k = s[k].toNat := by simp [byteN, h]
end Go.Proofs.YtofpjlhoppofdaaGreatDoor
namespace Go.Proofs.YtofpjlhoppofdaaGreatDoor
open Go.RowKit
set_option linter.unusedVariables false
def inB (m x : Int) : Bool := decide (-m ≤ x ∧ x ≤ m)
def withinB (m x y z : Int) : Bool := inB m x && inB m y && inB m z
def zeroB (x y z : Int) : Bool := decide (x = 0 ∧ y = 0 ∧ z = 0)
def rightB (x y z : Int) : Bool := withinB 1000000 x y z && !zeroB x y z
theorem inB_iff {m x : Int} : inB m x = true ↔ -m ≤ x ∧ x ≤ m := by simp [inB]
theorem withinB_iff {m x y z : Int} : withinB m x y z = true ↔ (-m ≤ x ∧ x ≤ m) ∧ (-m ≤ y ∧ y ≤ m) ∧ (-m ≤ z ∧ z ≤ m) := by
  simp [withinB, inB_iff, and_assoc]
theorem rightB_iff {x y z : Int} : rightB x y z = true ↔ ((-1000000 ≤ x ∧ x ≤ 1000000) ∧ (-1000000 ≤ y ∧ y ≤ 1000000) ∧ (-1000000 ≤ z ∧ z ≤ 1000000)) ∧ ¬ (x = 0 ∧ y = 0 ∧ z = 0) := by
  unfold rightB
  rw [Bool.and_eq_true, withinB_iff]
  simp only [zeroB, Bool.not_eq_true', decide_eq_false_iff_not]
theorem wrap_id {n : Int} (h0 : -9223372036854775808 ≤ n) (h1 : n ≤ 9223372036854775807) : wrap64 n = n := by
  exact Go.IntWalk.wrap64_in n ⟨h0, h1⟩
theorem mulB {a b A B : Int} (h1 : -A ≤ a ∧ a ≤ A) (h3 : -B ≤ b ∧ b ≤ B) : -(A * B) ≤ a * b ∧ a * b ≤ A * B := by
  have h : (a * b).natAbs ≤ A.natAbs * B.natAbs := by
    rw [Int.natAbs_mul]; exact Nat.mul_le_mul (by omega) (by omega)
  have : ((A.natAbs * B.natAbs : Nat) : Int) = A * B := by
    rw [Int.natCast_mul, Int.natAbs_of_nonneg (by omega), Int.natAbs_of_nonneg (by omega)]
  omega
def dotW (a1 a2 a3 b1 b2 b3 : Int) : Int := wrap64 (wrap64 (wrap64 (a1 * b1) + wrap64 (a2 * b2)) + wrap64 (a3 * b3))
def dot (a1 a2 a3 b1 b2 b3 : Int) : Int := a1 * b1 + a2 * b2 + a3 * b3
def crW (a2 a3 b2 b3 : Int) : Int := wrap64 (wrap64 (a2 * b3) - wrap64 (a3 * b2))
theorem dotW_comm (a1 a2 a3 b1 b2 b3 : Int) : dotW a1 a2 a3 b1 b2 b3 = dotW b1 b2 b3 a1 a2 a3 := by
  unfold dotW; rw [Int.mul_comm a1, Int.mul_comm a2, Int.mul_comm a3]
theorem dot_bound {a1 a2 a3 b1 b2 b3 A B : Int} (ha : withinB A a1 a2 a3 = true) (hb : withinB B b1 b2 b3 = true) : -(3 * (A * B)) ≤ dot a1 a2 a3 b1 b2 b3 ∧ dot a1 a2 a3 b1 b2 b3 ≤ 3 * (A * B) := by
  rw [withinB_iff] at ha hb
  have h1 := mulB ha.1 hb.1
  have h2 := mulB ha.2.1 hb.2.1
  have h3 := mulB ha.2.2 hb.2.2
  unfold dot
  omega
theorem dotW_eq {a1 a2 a3 b1 b2 b3 A B : Int} (ha : withinB A a1 a2 a3 = true) (hb : withinB B b1 b2 b3 = true) (h : 3 * (A * B) ≤ 9223372036854775807) : dotW a1 a2 a3 b1 b2 b3 = dot a1 a2 a3 b1 b2 b3 := by
  rw [withinB_iff] at ha hb
  have h1 := mulB ha.1 hb.1
  have h2 := mulB ha.2.1 hb.2.1
  have h3 := mulB ha.2.2 hb.2.2
  unfold dotW dot
  rw [wrap_id (n := a1 * b1) (by omega) (by omega), wrap_id (n := a2 * b2) (by omega) (by omega), wrap_id (n := a3 * b3) (by omega) (by omega), wrap_id (n := a1 * b1 + a2 * b2) (by omega) (by omega), wrap_id (by omega) (by omega)]
theorem crW_eq {a2 a3 b2 b3 A B : Int} (h2 : -A ≤ a2 ∧ a2 ≤ A) (h3 : -A ≤ a3 ∧ a3 ≤ A) (k2 : -B ≤ b2 ∧ b2 ≤ B) (k3 : -B ≤ b3 ∧ b3 ≤ B) (h : 2 * (A * B) ≤ 9223372036854775807) :
    crW a2 a3 b2 b3 = a2 * b3 - a3 * b2 ∧ -(2 * (A * B)) ≤ a2 * b3 - a3 * b2 ∧ a2 * b3 - a3 * b2 ≤ 2 * (A * B) := by
  have h1 := mulB h2 k3
  have h2 := mulB h3 k2
  unfold crW
  rw [wrap_id (n := a2 * b3) (by omega) (by omega), wrap_id (n := a3 * b2) (by omega) (by omega), wrap_id (by omega) (by omega)]
  omega
def detI (a1 a2 a3 b1 b2 b3 c1 c2 c3 : Int) : Int :=
  if rightB a1 a2 a3 && rightB b1 b2 b3 && rightB c1 c2 c3 then dotW (crW a2 a3 b2 b3) (crW a3 a1 b3 b1) (crW a1 a2 b1 b2) c1 c2 c3 else 0
def gI (x y z : Int) : Int := ((Int.gcd (Int.gcd x y : Int) z : Nat) : Int)
def prI (r : Bool) (g x : Int) : Int := if r then wrap64 (x.tdiv g) else 0
def sameB (a1 a2 a3 b1 b2 b3 : Int) : Bool :=
  rightB a1 a2 a3 && rightB b1 b2 b3 && zeroB (crW a2 a3 b2 b3) (crW a3 a1 b3 b1) (crW a1 a2 b1 b2) && decide (0 < dotW a1 a2 a3 b1 b2 b3)
theorem gcd_step (a b : Int) : Int.gcd b (a.tmod b) = Int.gcd a b := by
  show Nat.gcd b.natAbs (a.tmod b).natAbs = Nat.gcd a.natAbs b.natAbs
  rw [Int.natAbs_tmod, Nat.gcd_comm b.natAbs, ← Nat.gcd_rec, Nat.gcd_comm]
theorem gcd_zero (a : Int) : ((Int.gcd a 0 : Nat) : Int) = if a < 0 then -a else a := by
  rw [Int.gcd_zero_right]
  split <;> omega
theorem tmod_lt (a b : Int) (h : b ≠ 0) : (a.tmod b).natAbs < b.natAbs := by
  rw [Int.natAbs_tmod]; exact Nat.mod_lt _ (by omega)
theorem gcd_le {a b m : Int} (ha : -m ≤ a ∧ a ≤ m) (hb : -m ≤ b ∧ b ≤ m) : 0 ≤ ((Int.gcd a b : Nat) : Int) ∧ ((Int.gcd a b : Nat) : Int) ≤ m := by
  refine ⟨by omega, ?_⟩
  by_cases h : a = 0
  · subst h; rw [Int.gcd_zero_left]; omega
  · have := Nat.le_of_dvd (by omega) (Nat.gcd_dvd_left a.natAbs b.natAbs)
    have e : Int.gcd a b = Nat.gcd a.natAbs b.natAbs := rfl
    omega
theorem gI_pos {x y z : Int} (h : rightB x y z = true) : 0 < gI x y z := by
  rw [rightB_iff] at h
  unfold gI
  have h2 : Int.gcd ((Int.gcd x y : Nat) : Int) z ≠ 0 := by
    intro e
    rw [Int.gcd_eq_zero_iff] at e
    have e1 : Int.gcd x y = 0 := by omega
    rw [Int.gcd_eq_zero_iff] at e1
    exact h.2 ⟨e1.1, e1.2, e.2⟩
  omega
theorem sq_pos {x y z : Int} (h : ¬ (x = 0 ∧ y = 0 ∧ z = 0)) : 0 < dot x y z x y z := by
  unfold dot
  have hx : 0 ≤ x * x := by rw [← Int.natAbs_mul_self' x]; exact Int.natCast_nonneg _
  have hy : 0 ≤ y * y := by rw [← Int.natAbs_mul_self' y]; exact Int.natCast_nonneg _
  have hz : 0 ≤ z * z := by rw [← Int.natAbs_mul_self' z]; exact Int.natCast_nonneg _
  by_cases h1 : x = 0
  · by_cases h2 : y = 0
    · have h3 : z ≠ 0 := fun e => h ⟨h1, h2, e⟩
      have : z * z ≠ 0 := fun e => by rcases Int.mul_eq_zero.1 e with e | e <;> exact h3 e
      omega
    · have : y * y ≠ 0 := fun e => by rcases Int.mul_eq_zero.1 e with e | e <;> exact h2 e
      omega
  · have : x * x ≠ 0 := fun e => by rcases Int.mul_eq_zero.1 e with e | e <;> exact h1 e
    omega
def sgn (n : Int) : Int := if n < 0 then -1 else if 0 < n then 1 else 0
def ordI (a b : Int) : Int := if a < b then -1 else if b < a then 1 else 0
def ssq (n : Int) : Int := if n < 0 then -n * n else n * n
def wideB (x y z : Int) : Bool := rightB x y z && withinB 1800 x y z
def smallB (x y z : Int) : Bool := rightB x y z && withinB 10 x y z
def cosI (a1 a2 a3 b1 b2 b3 c1 c2 c3 d1 d2 d3 : Int) : Int :=
  if wideB a1 a2 a3 && wideB b1 b2 b3 && smallB c1 c2 c3 && smallB d1 d2 d3 then
    ordI (ssq (dot a1 a2 a3 b1 b2 b3) * (dot c1 c2 c3 c1 c2 c3 * dot d1 d2 d3 d1 d2 d3)) (ssq (dot c1 c2 c3 d1 d2 d3) * (dot a1 a2 a3 a1 a2 a3 * dot b1 b2 b3 b1 b2 b3))
  else 0
theorem ordI_lt {a b : Int} (h : a < b) : ordI a b = -1 := by simp [ordI, h]
theorem ordI_gt {a b : Int} (h : b < a) : ordI a b = 1 := by unfold ordI; rw [if_neg (by omega), if_pos h]
theorem ssq_neg {x : Int} (h : x < 0) : ssq x = -(x * x) := by unfold ssq; rw [if_pos h]; grind
theorem ssq_pos {x : Int} (h : 0 ≤ x) : ssq x = x * x := by unfold ssq; rw [if_neg (by omega)]
theorem sgn_neg {x : Int} (h : x < 0) : sgn x = -1 := by simp [sgn, h]
theorem sgn_pos {x : Int} (h : 0 < x) : sgn x = 1 := by unfold sgn; rw [if_neg (by omega), if_pos h]
theorem sgn_zero : sgn 0 = 0 := by simp [sgn]
def cosS (x y p q : Int) : Int :=
  if sgn x ≠ sgn y then sgn (wrap64 (sgn x - sgn y)) else if p < q then wrap64 (-sgn x) else if q < p then sgn x else 0
theorem cos_spec {x y L M : Int} (hL : 0 < L) (hM : 0 < M) : cosS x y (x * x * L) (y * y * M) = ordI (ssq x * L) (ssq y * M) := by
  have sq : ∀ {x L : Int}, x ≠ 0 → 0 < L → 0 < x * x * L := fun {x L} h hL => by
    have h0 : 0 ≤ x * x := by rw [← Int.natAbs_mul_self' x]; exact Int.natCast_nonneg _
    have : x * x ≠ 0 := fun e => by rcases Int.mul_eq_zero.1 e with e | e <;> exact h e
    exact Int.mul_pos (by omega) hL
  have xL : x ≠ 0 → 0 < x * x * L := fun h => sq h hL
  have yM : y ≠ 0 → 0 < y * y * M := fun h => sq h hM
  have nx : -(x * x) * L = -(x * x * L) := by grind
  have ny : -(y * y) * M = -(y * y * M) := by grind
  have w1 : wrap64 (-1) = -1 := wrap_id (by omega) (by omega)
  have w2 : wrap64 (-2) = -2 := wrap_id (by omega) (by omega)
  have w3 : wrap64 1 = 1 := wrap_id (by omega) (by omega)
  have w4 : wrap64 2 = 2 := wrap_id (by omega) (by omega)
  have z0 : ssq 0 = 0 := by simp [ssq]
  unfold cosS
  rcases Int.lt_trichotomy x 0 with hx0 | hx0 | hx0 <;> rcases Int.lt_trichotomy y 0 with hy0 | hy0 | hy0
  · rw [sgn_neg hx0, sgn_neg hy0, ssq_neg hx0, ssq_neg hy0, nx, ny, if_neg (by simp), show (-(-1) : Int) = 1 from rfl, w3]
    unfold ordI
    split
    · rw [if_neg (by omega), if_pos (by omega)]
    · split
      · rw [if_pos (by omega)]
      · rw [if_neg (by omega), if_neg (by omega)]
  · subst hy0
    have := xL (by omega)
    rw [sgn_neg hx0, sgn_zero, ssq_neg hx0, z0, nx, ordI_lt (by omega), if_pos (by simp), show (-1 - 0 : Int) = -1 from rfl, w1, sgn_neg (by omega)]
  · have := xL (by omega)
    have := yM (by omega)
    rw [sgn_neg hx0, sgn_pos hy0, ssq_neg hx0, ssq_pos (by omega), nx, ordI_lt (by omega), if_pos (by simp), show (-1 - 1 : Int) = -2 from rfl, w2, sgn_neg (by omega)]
  · subst hx0
    have := yM (by omega)
    rw [sgn_neg hy0, sgn_zero, ssq_neg hy0, z0, ny, ordI_gt (by omega), if_pos (by simp), show (0 - -1 : Int) = 1 from rfl, w3, sgn_pos (by omega)]
  · subst hx0; subst hy0
    simp [ordI, ssq, sgn]
  · subst hx0
    have := yM (by omega)
    rw [sgn_pos hy0, sgn_zero, ssq_pos (x := y) (by omega), z0, ordI_lt (by omega), if_pos (by simp), show (0 - 1 : Int) = -1 from rfl, w1, sgn_neg (by omega)]
  · have := xL (by omega)
    have := yM (by omega)
    rw [sgn_pos hx0, sgn_neg hy0, ssq_neg hy0, ssq_pos (by omega), ny, ordI_gt (by omega), if_pos (by simp), show (1 - -1 : Int) = 2 from rfl, w4, sgn_pos (by omega)]
  · subst hy0
    have := xL (by omega)
    rw [sgn_pos hx0, sgn_zero, ssq_pos (x := x) (by omega), z0, ordI_gt (by omega), if_pos (by simp), show (1 - 0 : Int) = 1 from rfl, w3, sgn_pos (by omega)]
  · rw [sgn_pos hx0, sgn_pos hy0, ssq_pos (x := x) (by omega), ssq_pos (x := y) (by omega), if_neg (by simp), w1]
    rfl
theorem below1 (w : World) (a : Obj) : Below w.heap.size w (w.alloc a) := (Below.refl _ _).alloc (Nat.le_refl _) _
theorem below2 (w : World) (a b : Obj) : Below w.heap.size w ((w.alloc a).alloc b) := (below1 w a).alloc (by simp) _
theorem below3 (w : World) (a b c : Obj) : Below w.heap.size w (((w.alloc a).alloc b).alloc c) := (below2 w a b).alloc (by simp; omega) _
theorem below_call {w w1 w2 : World} (h : Below w.heap.size w w1) (h2 : Below w1.heap.size w1 w2) : Below w.heap.size w w2 := h.trans (h2.mono h.size)
set_option maxRecDepth 100000 in
theorem l02Dot_any (a1 a2 a3 b1 b2 b3 : Int) (w : World) :
    Calls Tryz.prog 108 #[.agg #[.int .i64 a1, .int .i64 a2, .int .i64 a3], .agg #[.int .i64 b1, .int .i64 b2, .int .i64 b3]] w fun e w' => e = .returned (.int .i64 (dotW a1 a2 a3 b1 b2 b3)) ∧ Below w.heap.size w w' := by
  go_enter Tryz.func108, Tryz.ntmps108
  go_wp2
  go_ret
  exact ⟨rfl, below2 _ _ _⟩
set_option maxRecDepth 100000 in
theorem l02Is_any (n lo hi : Int) (w : World) :
    Calls Tryz.prog 36 #[.int .i64 n, .int .i64 lo, .int .i64 hi] w fun e w' => e = .returned (.bool (decide (lo ≤ n) && decide (n ≤ hi))) ∧ w' = w := by
  by_cases h : lo ≤ n
  · go_enter Tryz.func36, Tryz.ntmps36
    go_wp2
    go_ret
    exact ⟨by simp [h], rfl⟩
  · go_enter Tryz.func36, Tryz.ntmps36
    go_wp2
    go_ret
    exact ⟨by simp; omega, rfl⟩
end Go.Proofs.YtofpjlhoppofdaaGreatDoor
namespace Go.Proofs.YtofpjlhoppofdaaGreatDoor
open Go.RowKit Go.Extern.Stop Go.Stop Go.Extern
set_option linter.unusedVariables false
def ErrSky (b : Addr) (w : World) : Prop := w.cell? ⟨1, 0, none⟩ = some (.iface 257 (.pointer (some b)))
theorem ErrSky.lt {b : Addr} {w : World} (h : ErrSky b w) : 1 < w.heap.size := World.block_lt_of_cell? w _ h
theorem ErrSky.kept {b : Addr} {w w' : World} (h : ErrSky b w) (hB : Below w.heap.size w w') : ErrSky b w' := by
  unfold ErrSky
  rw [hB.cell (p := ⟨1, 0, none⟩) h.lt]
  exact h
end Go.Proofs.YtofpjlhoppofdaaGreatDoor
namespace Go.Proofs.YtofpjlhoppofdaaGreatDoor
open Go.RowKit
set_option linter.unusedVariables false
abbrev St := Int × Int × Int × Int
def stC (s : St) : List Value := [.int .i64 s.1, .int .i64 s.2.1, .int .i64 s.2.2.1, .int .i64 s.2.2.2]
def stA (L : List St) (i : Nat) : St := L.getD i (0, 0, 0, 0)
def idB (n : Int) : Bool := decide (1 ≤ n) && decide (n ≤ 9999)
def upB (L : List St) (i : Nat) : Bool := decide (i = 0) || decide ((stA L (i - 1)).1 < (stA L i).1)
def eqI (a1 a2 a3 b1 b2 b3 : Int) : Bool := decide (a1 = b1 ∧ a2 = b2 ∧ a3 = b3)
def primeB (x y z : Int) : Bool := eqI x y z (prI (rightB x y z) (gI x y z) x) (prI (rightB x y z) (gI x y z) y) (prI (rightB x y z) (gI x y z) z)
def sameS (p q : St) : Bool := sameB p.2.1 p.2.2.1 p.2.2.2 q.2.1 q.2.2.1 q.2.2.2
def freeTo (L : List St) (s : St) (k : Nat) : Prop := ∀ j, j < k → sameS s (stA L j) = false
def takenB (L : List St) (s : St) (n : Nat) : Bool := (List.range n).any fun j => sameS s (stA L j)
def okAt (L : List St) (i : Nat) : Bool :=
  idB (stA L i).1 && upB L i && (smallB (stA L i).2.1 (stA L i).2.2.1 (stA L i).2.2.2 && primeB (stA L i).2.1 (stA L i).2.2.1 (stA L i).2.2.2) && !takenB L (stA L i) i
def okTo (L : List St) (k : Nat) : Prop := ∀ j, j < k → okAt L j = true
def skyB (L : List St) : Bool := decide (L.length ≤ 12) && (List.range L.length).all (okAt L)
theorem taken_no {L : List St} {s : St} {n : Nat} (h : freeTo L s n) : takenB L s n = false := by
  unfold takenB
  rw [List.any_eq_false]
  intro j hj
  rw [h j (List.mem_range.1 hj)]
  simp
theorem taken_yes {L : List St} {s : St} {n j : Nat} (hj : j < n) (h : sameS s (stA L j) = true) : takenB L s n = true := by
  unfold takenB
  rw [List.any_eq_true]
  exact ⟨j, List.mem_range.2 hj, h⟩
theorem free_step {L : List St} {s : St} {k : Nat} (h : freeTo L s k) (h1 : sameS s (stA L k) = false) : freeTo L s (k + 1) := by
  intro j hj
  by_cases e : j = k
  · rw [e]; exact h1
  · exact h j (by omega)
theorem ok_step {L : List St} {k : Nat} (h : okTo L k) (h1 : okAt L k = true) : okTo L (k + 1) := by
  intro j hj
  by_cases e : j = k
  · rw [e]; exact h1
  · exact h j (by omega)
theorem sky_yes {L : List St} (hl : L.length ≤ 12) (h : okTo L L.length) : skyB L = true := by
  unfold skyB
  rw [Bool.and_eq_true, List.all_eq_true]
  exact ⟨by simpa using hl, fun j hj => h j (List.mem_range.1 hj)⟩
theorem sky_no {L : List St} {k : Nat} (hk : k < L.length) (h : okAt L k = false) : skyB L = false := by
  unfold skyB
  have : (List.range L.length).all (okAt L) = false := by
    rw [List.all_eq_false]
    exact ⟨k, List.mem_range.2 hk, by rw [h]; simp⟩
  rw [this, Bool.and_false]
theorem sky_long {L : List St} (hl : 12 < L.length) : skyB L = false := by
  unfold skyB
  rw [show decide (L.length ≤ 12) = false by simp; omega, Bool.false_and]
theorem sky_ok {L : List St} (h : skyB L = true) : L.length ≤ 12 ∧ okTo L L.length := by
  unfold skyB at h
  rw [Bool.and_eq_true, List.all_eq_true] at h
  exact ⟨by simpa using h.1, fun j hj => h.2 j (List.mem_range.2 hj)⟩
theorem ok_small {L : List St} {i : Nat} (h : okAt L i = true) : smallB (stA L i).2.1 (stA L i).2.2.1 (stA L i).2.2.2 = true := by
  unfold okAt at h
  simp only [Bool.and_eq_true] at h
  exact h.1.2.1
theorem small_iff {x y z : Int} (h : smallB x y z = true) : rightB x y z = true ∧ withinB 10 x y z = true := by simpa [smallB] using h
theorem sameB_comm {a1 a2 a3 b1 b2 b3 : Int} (ha : smallB a1 a2 a3 = true) (hb : smallB b1 b2 b3 = true) : sameB a1 a2 a3 b1 b2 b3 = sameB b1 b2 b3 a1 a2 a3 := by
  obtain ⟨ra, wa⟩ := small_iff ha
  obtain ⟨rb, wb⟩ := small_iff hb
  obtain ⟨x1, x2, x3⟩ := withinB_iff.1 wa
  obtain ⟨y1, y2, y3⟩ := withinB_iff.1 wb
  have e1 := crW_eq x2 x3 y2 y3 (by omega)
  have e2 := crW_eq x3 x1 y3 y1 (by omega)
  have e3 := crW_eq x1 x2 y1 y2 (by omega)
  have f1 := crW_eq y2 y3 x2 x3 (by omega)
  have f2 := crW_eq y3 y1 x3 x1 (by omega)
  have f3 := crW_eq y1 y2 x1 x2 (by omega)
  unfold sameB
  rw [ra, rb, e1.1, e2.1, e3.1, f1.1, f2.1, f3.1, dotW_comm]
  congr 2
  unfold zeroB
  rw [Int.mul_comm b2, Int.mul_comm b3 a2, Int.mul_comm b3 a1, Int.mul_comm b1 a3, Int.mul_comm b1 a2, Int.mul_comm b2 a1]
  congr 1
  apply propext
  constructor <;> rintro ⟨h1, h2, h3⟩ <;> exact ⟨by omega, by omega, by omega⟩
theorem same_eq {a1 a2 a3 b1 b2 b3 : Int} (ha : smallB a1 a2 a3 = true) (hb : smallB b1 b2 b3 = true) :
    (eqI (crW a2 a3 b2 b3) (crW a3 a1 b3 b1) (crW a1 a2 b1 b2) 0 0 0 && decide (0 < dotW a1 a2 a3 b1 b2 b3)) = sameB a1 a2 a3 b1 b2 b3 := by
  unfold sameB
  rw [(small_iff ha).1, (small_iff hb).1]
  rfl
def eqB (a1 a2 a3 b1 b2 b3 : Int) : Bool := decide (a1 = b1 ∧ a2 = b2 ∧ a3 = b3)
theorem equal_vec (a1 a2 a3 b1 b2 b3 : Int) (w : World) : (Op.equalIn 10000 76 (.agg #[.int .i64 a1, .int .i64 a2, .int .i64 a3]) (.agg #[.int .i64 b1, .int .i64 b2, .int .i64 b3])).run Tryz.prog w = .ok (eqB a1 a2 a3 b1 b2 b3) w := by
  have h := run_equalIn_struct (P := Tryz.prog) w 9999 76 #[.int .i64 a1, .int .i64 a2, .int .i64 a3] #[.int .i64 b1, .int .i64 b2, .int .i64 b3] (by kernel_rfl) (by kernel_rfl)
  have hf : (Tryz.prog.fieldsOf 76).toList = (Tryz.prog.fieldsOf 76).toList := rfl
  refine h.trans ?_
  by_cases h1 : a1 = b1
  · by_cases h2 : a2 = b2
    · by_cases h3 : a3 = b3
      · simp [go_sem, eqB, h1, h2, h3]
      · simp [go_sem, eqB, h1, h2, h3]
    · simp [go_sem, eqB, h1, h2]
  · simp [go_sem, eqB, h1]
theorem neq_vec (a1 a2 a3 b1 b2 b3 : Int) (w : World) : (binOp .neq 76 (.agg #[.int .i64 a1, .int .i64 a2, .int .i64 a3]) (.agg #[.int .i64 b1, .int .i64 b2, .int .i64 b3])).run Tryz.prog w = .ok (.bool (!eqB a1 a2 a3 b1 b2 b3)) w := by
  rw [run_neq_struct, equal_vec]; rfl
theorem eql_vec (a1 a2 a3 b1 b2 b3 : Int) (w : World) : (binOp .eql 76 (.agg #[.int .i64 a1, .int .i64 a2, .int .i64 a3]) (.agg #[.int .i64 b1, .int .i64 b2, .int .i64 b3])).run Tryz.prog w = .ok (.bool (eqB a1 a2 a3 b1 b2 b3)) w := by
  rw [run_eql_struct, equal_vec]; rfl
theorem isB (m x : Int) : (decide (-m ≤ x) && decide (x ≤ m)) = inB m x := by unfold inB; rw [Bool.decide_and]
set_option maxRecDepth 100000 in
theorem l02Within_any (m x y z : Int) (w : World) (hm0 : 0 ≤ m) (hm : m ≤ 1000000) :
    Calls Tryz.prog 62 #[.agg #[.int .i64 x, .int .i64 y, .int .i64 z], .int .i64 m] w fun e w' => e = .returned (.bool (withinB m x y z)) ∧ Below w.heap.size w w' := by
  have hwr : wrap64 (-m) = -m := wrap_id (by omega) (by omega)
  go_enter Tryz.func62, Tryz.ntmps62
  go_wp2_with fail
  refine (l02Is_any x (-m) m _).mono ?_
  rintro e w1 ⟨rfl, rfl⟩
  rw [isB]
  cases hx : inB m x
  · go_wp2_with fail
    go_ret
    exact ⟨by simp [withinB, hx], below1 _ _⟩
  · go_wp2_with fail
    refine (l02Is_any y (-m) m _).mono ?_
    rintro e w1 ⟨rfl, rfl⟩
    rw [isB]
    cases hy : inB m y
    · go_wp2_with fail
      go_ret
      exact ⟨by simp [withinB, hy], below1 _ _⟩
    · go_wp2_with fail
      refine (l02Is_any z (-m) m _).mono ?_
      rintro e w1 ⟨rfl, rfl⟩
      rw [isB]
      go_wp2_with fail
      go_ret
      exact ⟨by simp [withinB, hx, hy], below1 _ _⟩
set_option maxRecDepth 100000 in
theorem specRight_any (x y z : Int) (w : World) :
    Calls Tryz.prog 61 #[.agg #[.int .i64 x, .int .i64 y, .int .i64 z]] w fun e w' => e = .returned (.bool (rightB x y z)) ∧ Below w.heap.size w w' := by
  have hn := fun w => neq_vec x y z 0 0 0 w
  go_enter Tryz.func61, Tryz.ntmps61
  go_wp2_with fail
  refine (l02Within_any 1000000 x y z _ (by omega) (by omega)).mono ?_
  rintro e w1 ⟨rfl, hB1⟩
  have hB : Below w.heap.size w w1 := below_call (below1 _ _) hB1
  have hc : ∀ i : Nat, w1.cell? ⟨w.heap.size, i, none⟩ = _ := fun i => hB1.cell (p := ⟨w.heap.size, i, none⟩) (by simp)
  have c0 := hc 0
  have c1 := hc 1
  have c2 := hc 2
  simp at c0 c1 c2
  clear hB1 hc
  cases hx : withinB 1000000 x y z
  · go_wp2_with fail
    go_ret
    exact ⟨by simp [rightB, hx], hB⟩
  · go_wp2_with fail
    go_ret
    exact ⟨by simp [rightB, hx]; rfl, hB⟩
def VecAt (w : World) (b : Nat) (x y z : Int) : Prop := w.cell? ⟨b, 0, none⟩ = some (.int .i64 x) ∧ w.cell? ⟨b, 1, none⟩ = some (.int .i64 y) ∧ w.cell? ⟨b, 2, none⟩ = some (.int .i64 z)
def FreeAt (w : World) (b : Nat) : Prop := w.frozen? ⟨b, 0, none⟩ = false ∧ w.frozen? ⟨b, 1, none⟩ = false ∧ w.frozen? ⟨b, 2, none⟩ = false
theorem VecAt.kept {w w' : World} {b : Nat} {x y z : Int} (h : VecAt w b x y z) (hb : b < w.heap.size) (hB : Below w.heap.size w w') : VecAt w' b x y z := by
  obtain ⟨h0, h1, h2⟩ := h
  exact ⟨by rw [hB.cell (p := ⟨b, 0, none⟩) hb]; exact h0, by rw [hB.cell (p := ⟨b, 1, none⟩) hb]; exact h1, by rw [hB.cell (p := ⟨b, 2, none⟩) hb]; exact h2⟩
theorem FreeAt.kept {w w' : World} {b : Nat} (h : FreeAt w b) (hb : b < w.heap.size) (hB : Below w.heap.size w w') : FreeAt w' b := by
  obtain ⟨h0, h1, h2⟩ := h
  exact ⟨by rw [hB.frozen (p := ⟨b, 0, none⟩) hb]; exact h0, by rw [hB.frozen (p := ⟨b, 1, none⟩) hb]; exact h1, by rw [hB.frozen (p := ⟨b, 2, none⟩) hb]; exact h2⟩
theorem vecAt_new (w : World) (x y z : Int) (t : TypeId) : VecAt (w.alloc (.cells #[.int .i64 x, .int .i64 y, .int .i64 z] t)) w.heap.size x y z := by
  refine ⟨?_, ?_, ?_⟩ <;> simp
theorem freeAt_new (w : World) (x y z : Int) (t : TypeId) : FreeAt (w.alloc (.cells #[.int .i64 x, .int .i64 y, .int .i64 z] t)) w.heap.size := by
  refine ⟨?_, ?_, ?_⟩ <;> simp
theorem VecAt.alloc {w : World} {b : Nat} {x y z : Int} (h : VecAt w b x y z) (hb : b < w.heap.size) (o : Obj) : VecAt (w.alloc o) b x y z := h.kept hb (below1 _ _)
theorem below_set3 {w w1 : World} {b : Nat} (h : Below w.heap.size w w1) (hb : w.heap.size ≤ b) (x y z : Value) : Below w.heap.size w (((w1.setCell ⟨b, 0, none⟩ x).setCell ⟨b, 1, none⟩ y).setCell ⟨b, 2, none⟩ z) := ((h.setCell hb _).setCell hb _).setCell hb _
theorem below4 (w : World) (a b c d : Obj) : Below w.heap.size w ((((w.alloc a).alloc b).alloc c).alloc d) := (below3 w a b c).alloc (by simp; omega) _
set_option maxRecDepth 100000 in
theorem l02Cross_any (a1 a2 a3 b1 b2 b3 : Int) (w : World) :
    Calls Tryz.prog 107 #[.agg #[.int .i64 a1, .int .i64 a2, .int .i64 a3], .agg #[.int .i64 b1, .int .i64 b2, .int .i64 b3]] w fun e w' => e = .returned (.agg #[.int .i64 (crW a2 a3 b2 b3), .int .i64 (crW a3 a1 b3 b1), .int .i64 (crW a1 a2 b1 b2)]) ∧ Below w.heap.size w w' := by
  go_enter Tryz.func107, Tryz.ntmps107
  go_wp2
  exact bodyPost_ret (v := .agg #[.int .i64 (crW a2 a3 b2 b3), .int .i64 (crW a3 a1 b3 b1), .int .i64 (crW a1 a2 b1 b2)]) (by simp [results, Tryz.results107, go_sem, crW]) rfl ⟨rfl, below3 _ _ _ _⟩
theorem rem_fits {a b : Int} (h : b ≠ 0) (hb : -1000000 ≤ b ∧ b ≤ 1000000) : wrap64 (a.tmod b) = a.tmod b ∧ -1000000 ≤ a.tmod b ∧ a.tmod b ≤ 1000000 := by
  have := tmod_lt a b h
  have h2 : -1000000 ≤ a.tmod b ∧ a.tmod b ≤ 1000000 := by omega
  exact ⟨wrap_id (by omega) (by omega), h2⟩
theorem below_drewN (w : World) (n : Nat) : Below w.heap.size w (w.drewN n) := ⟨rfl, rfl, rfl, Nat.le_refl _, fun _ _ => rfl⟩
set_option maxRecDepth 100000 in
theorem l02Gcd_any (a b : Int) (w : World) (ha : -1000000 ≤ a ∧ a ≤ 1000000) (hb : -1000000 ≤ b ∧ b ≤ 1000000) :
    Calls Tryz.prog 106 #[.int .i64 a, .int .i64 b] w fun e w' => e = .returned (.int .i64 ((Int.gcd a b : Nat) : Int)) ∧ ∃ n, w' = w.drewN n := by
  go_enter Tryz.func106, Tryz.ntmps106
  go_wp2
  go_loopw [0, 1] (fun u v wr => ∃ p q : Int, u = .int .i64 p ∧ v = .int .i64 q ∧ Hid (-1000000 ≤ p ∧ p ≤ 1000000) ∧ Hid (-1000000 ≤ q ∧ q ≤ 1000000) ∧ Hid (Int.gcd p q = Int.gcd a b) ∧ ∃ n, wr = w.drewN n) (fun _ v _ => (intOf v).natAbs)
  case atStart => exact ⟨a, b, rfl, rfl, yz ha, yz hb, yz rfl, 0, rfl⟩
  case round =>
    obtain ⟨p, q, rfl, rfl, hp, hq, hg, nd, rfl⟩ := hrel
    by_cases h0 : q = 0
    · subst h0
      have HG := yz (gcd_zero p)
      by_cases hn : p < 0
      · have HW : Hid (wrap64 (-p) = -p) := yz (by have := yy hp; exact wrap_id (by omega) (by omega))
        have HR := yz (show ((Int.gcd a b : Nat) : Int) = -p by rw [← yy hg, yy HG, if_pos hn])
        go_wp2
        go_ret
        exact ⟨by rw [yy HR]; exact congrArg (fun x => Ending.returned (Value.int .i64 x)) (yy HW), nd, rfl⟩
      · have HR := yz (show ((Int.gcd a b : Nat) : Int) = p by rw [← yy hg, yy HG, if_neg hn])
        go_wp2
        go_ret
        exact ⟨by rw [yy HR]; rfl, nd, rfl⟩
    · have hz : (q == 0) = false := by simp [h0]
      have hr := rem_fits (a := p) h0 (yy hq)
      have HL := yz (tmod_lt p q h0)
      have HS := yz (gcd_step p q)
      obtain ⟨r, hre⟩ : ∃ r, p.tmod q = r := ⟨_, rfl⟩
      have hrw := hr.1
      have HRB := yz hr.2
      rw [hre] at hrw HRB HL HS
      clear hr
      go_wp2
      go_roundw
      case rel => exact ⟨q, r, rfl, rfl, hq, HRB, yz ((yy HS).trans (yy hg)), nd, rfl⟩
      case measure => simp [intOf]; exact yy HL
set_option maxRecDepth 100000 in
theorem l02Prime_any (x y z : Int) (w : World) (hr : rightB x y z = true) :
    Calls Tryz.prog 63 #[.agg #[.int .i64 x, .int .i64 y, .int .i64 z]] w fun e w' => e = .returned (.agg #[.int .i64 (wrap64 (x.tdiv (gI x y z))), .int .i64 (wrap64 (y.tdiv (gI x y z))), .int .i64 (wrap64 (z.tdiv (gI x y z)))]) ∧ Below w.heap.size w w' := by
  obtain ⟨⟨hx, hy, hz⟩, _⟩ := rightB_iff.1 hr
  have hg1 := gcd_le hx hy
  have hpos := gI_pos hr
  go_enter Tryz.func63, Tryz.ntmps63
  go_wp2_with fail
  go_quiet (first | (go_at_call_of 106 (Value.int IntKind.i64 x); refine Calls.quiet_of (l02Gcd_any x y _ hx hy)) | (go_at_call 106; refine Calls.quiet_of (l02Gcd_any _ z _ ?_ hz); omega))
  have hz0 : (gI x y z == 0) = false := by simp; omega
  have hgi : ((Int.gcd ((Int.gcd x y : Nat) : Int) z : Nat) : Int) = gI x y z := rfl
  rw [hgi]
  clear hgi
  generalize hge : gI x y z = g at hpos hz0 ⊢
  have HG := yz hge
  clear hge
  have va : VecAt (((w.alloc (.cells #[.int .i64 x, .int .i64 y, .int .i64 z] 76)).alloc (.cells #[.int .i64 0, .int .i64 0, .int .i64 0] 76)).drewN nq) w.heap.size x y z := ((vecAt_new w x y z _).alloc (by simp) _)
  have vr : VecAt (((w.alloc (.cells #[.int .i64 x, .int .i64 y, .int .i64 z] 76)).alloc (.cells #[.int .i64 0, .int .i64 0, .int .i64 0] 76)).drewN nq) (w.heap.size + 1) 0 0 0 := (by simpa using vecAt_new (w.alloc (.cells #[.int .i64 x, .int .i64 y, .int .i64 z] 76)) 0 0 0 76 : VecAt ((w.alloc (.cells #[.int .i64 x, .int .i64 y, .int .i64 z] 76)).alloc (.cells #[.int .i64 0, .int .i64 0, .int .i64 0] 76)) (w.heap.size + 1) 0 0 0)
  have fr : FreeAt (((w.alloc (.cells #[.int .i64 x, .int .i64 y, .int .i64 z] 76)).alloc (.cells #[.int .i64 0, .int .i64 0, .int .i64 0] 76)).drewN nq) (w.heap.size + 1) := (by simpa using freeAt_new (w.alloc (.cells #[.int .i64 x, .int .i64 y, .int .i64 z] 76)) 0 0 0 76 : FreeAt ((w.alloc (.cells #[.int .i64 x, .int .i64 y, .int .i64 z] 76)).alloc (.cells #[.int .i64 0, .int .i64 0, .int .i64 0] 76)) (w.heap.size + 1))
  have hB : Below w.heap.size w (((w.alloc (.cells #[.int .i64 x, .int .i64 y, .int .i64 z] 76)).alloc (.cells #[.int .i64 0, .int .i64 0, .int .i64 0] 76)).drewN nq) := below_call (below2 _ _ _) (below_drewN _ _)
  generalize ((w.alloc (.cells #[.int .i64 x, .int .i64 y, .int .i64 z] 76)).alloc (.cells #[.int .i64 0, .int .i64 0, .int .i64 0] 76)).drewN nq = w1 at va vr fr hB ⊢
  obtain ⟨ca0, ca1, ca2⟩ := va
  obtain ⟨cr0, cr1, cr2⟩ := vr
  obtain ⟨fr0, fr1, fr2⟩ := fr
  clear hg1 hx hy hz hr
  go_wp2_with fail
  go_region
  go_wp2
  exact bodyPost_ret (v := .agg #[.int .i64 (wrap64 (x.tdiv g)), .int .i64 (wrap64 (y.tdiv g)), .int .i64 (wrap64 (z.tdiv g))]) (by simp [results, Tryz.results63, go_sem, cr0, cr1, cr2]) rfl ⟨by rw [yy HG], (below_set3 hB (by omega) _ _ _).drew⟩
end Go.Proofs.YtofpjlhoppofdaaGreatDoor
namespace Go.Proofs.YtofpjlhoppofdaaGreatDoor
open Go.RowKit Go.Sort
set_option linter.unusedVariables false
set_option maxRecDepth 100000 in
theorem l02Same_any (a1 a2 a3 b1 b2 b3 : Int) (w : World) :
    Calls Tryz.prog 64 #[.agg #[.int .i64 a1, .int .i64 a2, .int .i64 a3], .agg #[.int .i64 b1, .int .i64 b2, .int .i64 b3]] w fun e w' => e = .returned (.bool (eqB (crW a2 a3 b2 b3) (crW a3 a1 b3 b1) (crW a1 a2 b1 b2) 0 0 0 && decide (0 < dotW a1 a2 a3 b1 b2 b3))) ∧ Below w.heap.size w w' := by
  go_enter Tryz.func64, Tryz.ntmps64
  go_wp2_with fail
  refine (l02Cross_any a1 a2 a3 b1 b2 b3 _).mono ?_
  rintro e w1 ⟨rfl, hB1⟩
  have hB : Below w.heap.size w w1 := below_call (below2 _ _ _) hB1
  have va : VecAt w1 w.heap.size a1 a2 a3 := ((vecAt_new w a1 a2 a3 _).alloc (by simp) _).kept (by simp; omega) hB1
  have vb : VecAt w1 (w.heap.size + 1) b1 b2 b3 := (by simpa using vecAt_new (w.alloc _) b1 b2 b3 _ : VecAt _ (w.heap.size + 1) b1 b2 b3).kept (by simp) hB1
  clear hB1
  obtain ⟨ca0, ca1, ca2⟩ := va
  obtain ⟨cb0, cb1, cb2⟩ := vb
  have he := fun w => eql_vec (crW a2 a3 b2 b3) (crW a3 a1 b3 b1) (crW a1 a2 b1 b2) 0 0 0 w
  cases hz : eqB (crW a2 a3 b2 b3) (crW a3 a1 b3 b1) (crW a1 a2 b1 b2) 0 0 0
  · rw [hz] at he
    go_wp2_with fail
    go_ret
    exact ⟨by rw [hz]; rfl, hB⟩
  · rw [hz] at he
    go_wp2_with fail
    refine (l02Dot_any a1 a2 a3 b1 b2 b3 _).mono ?_
    rintro e w2 ⟨rfl, hB2⟩
    replace hB := below_call hB hB2
    go_wp2_with fail
    go_ret
    exact ⟨by rw [hz, Bool.true_and]; rfl, hB⟩
theorem wideB_iff {x y z : Int} (h : wideB x y z = true) : rightB x y z = true ∧ withinB 1800 x y z = true := by simpa [wideB] using h
theorem smallB_iff {x y z : Int} (h : smallB x y z = true) : rightB x y z = true ∧ withinB 10 x y z = true := by simpa [smallB] using h
end Go.Proofs.YtofpjlhoppofdaaGreatDoor
namespace Go.Proofs.YtofpjlhoppofdaaGreatDoor
open Go.RowKit
set_option linter.unusedVariables false
def StarAt (w : World) (b o : Nat) (s : St) : Prop := w.cell? ⟨b, o, none⟩ = some (.int .i64 s.1) ∧ w.cell? ⟨b, o + 1, none⟩ = some (.int .i64 s.2.1) ∧ w.cell? ⟨b, o + 2, none⟩ = some (.int .i64 s.2.2.1) ∧ w.cell? ⟨b, o + 3, none⟩ = some (.int .i64 s.2.2.2)
def Stars (w : World) (a : Option Addr) (L : List St) (n : Nat) : Prop := n = 0 ∨ ∃ b o, a = some ⟨b, o, none⟩ ∧ b < w.heap.size ∧ ∀ i, i < n → StarAt w b (o + i * 4) (stA L i)
theorem StarAt.kept {w w' : World} {b o : Nat} {s : St} (h : StarAt w b o s) (hb : b < w.heap.size) (hB : Below w.heap.size w w') : StarAt w' b o s := by
  obtain ⟨h0, h1, h2, h3⟩ := h
  exact ⟨by rw [hB.cell (p := ⟨b, o, none⟩) hb]; exact h0, by rw [hB.cell (p := ⟨b, o + 1, none⟩) hb]; exact h1, by rw [hB.cell (p := ⟨b, o + 2, none⟩) hb]; exact h2, by rw [hB.cell (p := ⟨b, o + 3, none⟩) hb]; exact h3⟩
theorem Stars.kept {w w' : World} {a : Option Addr} {L : List St} {n : Nat} (h : Stars w a L n) (hB : Below w.heap.size w w') : Stars w' a L n := by
  rcases h with h | ⟨b, o, ha, hb, hc⟩
  · exact .inl h
  · exact .inr ⟨b, o, ha, Nat.lt_of_lt_of_le hb hB.size, fun i hi => (hc i hi).kept hb hB⟩
theorem vlt {w : World} {b : Nat} {x y z : Int} (h : VecAt w b x y z) : b < w.heap.size := World.block_lt_of_cell? w _ h.1
theorem Stars.less {w : World} {a : Option Addr} {L : List St} {n m : Nat} (h : Stars w a L n) (hm : m ≤ n) : Stars w a L m := by
  rcases h with h | ⟨b, o, ha, hb, hc⟩
  · exact .inl (by omega)
  · exact .inr ⟨b, o, ha, hb, fun i hi => hc i (by omega)⟩
end Go.Proofs.YtofpjlhoppofdaaGreatDoor
namespace Go.Proofs.YtofpjlhoppofdaaGreatDoor
open Go.RowKit Go.Sort
set_option linter.unusedVariables false
theorem eqB_comm (a1 a2 a3 b1 b2 b3 : Int) : eqB a1 a2 a3 b1 b2 b3 = eqI b1 b2 b3 a1 a2 a3 := by
  unfold eqB eqI
  congr 1
  apply propext
  constructor <;> rintro ⟨h1, h2, h3⟩ <;> exact ⟨h1.symm, h2.symm, h3.symm⟩
theorem okAt_no1 {L : List St} {i : Nat} {s1 s2 s3 s4 : Int} (hs : stA L i = (s1, s2, s3, s4)) (h : idB s1 = false) : okAt L i = false := by unfold okAt; rw [hs]; simp [h]
theorem okAt_no2 {L : List St} {i : Nat} (h : upB L i = false) : okAt L i = false := by unfold okAt; simp [h]
theorem okAt_no3 {L : List St} {i : Nat} {s1 s2 s3 s4 : Int} (hs : stA L i = (s1, s2, s3, s4)) (h : smallB s2 s3 s4 = false) : okAt L i = false := by unfold okAt; rw [hs]; simp [h]
theorem okAt_no4 {L : List St} {i : Nat} {s1 s2 s3 s4 : Int} (hs : stA L i = (s1, s2, s3, s4)) (h : primeB s2 s3 s4 = false) : okAt L i = false := by unfold okAt; rw [hs]; simp [h]
theorem okAt_no5 {L : List St} {i : Nat} (h : takenB L (stA L i) i = true) : okAt L i = false := by unfold okAt; simp [h]
theorem okAt_yes {L : List St} {i : Nat} {s1 s2 s3 s4 : Int} (hs : stA L i = (s1, s2, s3, s4)) (h1 : idB s1 = true) (h2 : upB L i = true) (h3 : smallB s2 s3 s4 = true) (h4 : primeB s2 s3 s4 = true) (h5 : takenB L (stA L i) i = false) : okAt L i = true := by
  unfold okAt
  rw [h5, h2, hs]
  simp [h1, h3, h4]
set_option maxHeartbeats 8000000 in
set_option maxRecDepth 100000 in
theorem specSky_any (L : List St) (a : Option Addr) (c : Nat) (w : World) (hn : L.length ≤ 1048576) (hS : Stars w a L L.length) :
    Calls Tryz.prog 35 #[.slice a L.length c] w fun e w' => e = .returned (.bool (skyB L)) ∧ Below w.heap.size w w' := by
  obtain ⟨n, hnl⟩ : ∃ n, L.length = n := ⟨_, rfl⟩
  rw [hnl] at hn hS ⊢
  have HL := yz hnl
  clear hnl
  by_cases h12 : 12 < n
  · have h12' : (12 : Int) < (n : Int) := by omega
    have HO : Hid (skyB L = false) := yz (sky_long (by rw [yy HL]; exact h12))
    clear hS
    go_enter Tryz.func35, Tryz.ntmps35
    go_wp2
    go_ret
    exact ⟨by rw [yy HO]; rfl, Below.refl _ _⟩
  have h12' : ¬ (12 : Int) < (n : Int) := by omega
  rcases hS with rfl | ⟨b, o, rfl, hb, hc⟩
  · have HO : Hid (skyB L = true) := yz (sky_yes (by rw [yy HL]; omega) (by rw [yy HL]; intro j hj; omega))
    go_enter Tryz.func35, Tryz.ntmps35
    go_wp2_with fail
    refine wp_loop_rounds 1 ?_
    rw [rounds_succ]
    go_wp2_with fail
    go_ret
    exact ⟨by rw [yy HO]; rfl, Below.refl _ _⟩
  have HC := yz hc
  clear hc
  go_enter Tryz.func35, Tryz.ntmps35
  go_wp2_with fail
  go_loopw [3] (fun i wr => ∃ k : Nat, k ≤ n ∧ i = .int .i64 k ∧ Hid (okTo L k) ∧ Hid (Below w.heap.size w wr)) (fun i _ => n - (intOf i).toNat)
  case atStart => exact ⟨0, by omega, rfl, yz (fun j hj => absurd hj (Nat.not_lt_zero _)), yz (Below.refl _ _)⟩
  case round =>
    obtain ⟨k, hk, rfl, HF, HB⟩ := hrel
    by_cases hkn : k < n
    · obtain ⟨⟨s1, s2, s3, s4⟩, hs⟩ : ∃ s, stA L k = s := ⟨_, rfl⟩
      have hst := ((yy HC) k hkn).kept hb (yy HB)
      rw [hs] at hst
      obtain ⟨c0, c1, c2, c3⟩ := hst
      have HT := yz hs
      clear hs
      have hkn2 : (k : Int) < (n : Int) := by omega
      have B1 := yz ((yy HB).alloc (yy HB).size (.cells #[.int .i64 s2, .int .i64 s3, .int .i64 s4] 76))
      have N1 := yz (vecAt_new wr s2 s3 s4 76)
      rcases Nat.eq_zero_or_pos k with hk0 | hk0
      · subst hk0
        go_wp2_with fail
        clear c0 c1 c2 c3
        have hb1 := yy B1
        have hn1 := yy N1
        generalize hwe : wr.alloc (.cells #[.int .i64 s2, .int .i64 s3, .int .i64 s4] 76) = W1 at hb1 hn1 ⊢
        generalize hwb : wr.heap.size = vb at hn1 ⊢
        have HB1 := yz hb1
        have HN1 := yz hn1
        clear hwe hwb hb1 hn1 B1 N1 HB
        obtain ⟨v0, v1, v2⟩ := yy HN1
        have r0 := cell_regrown v0
        have r1 := cell_regrown v1
        have r2 := cell_regrown v2
        clear v0 v1 v2
        have hst := ((yy HC) (0) hkn).kept hb (yy HB1)
        rw [yy HT] at hst
        have hst1 := hst.1
        simp only [Nat.zero_mul, Nat.add_zero] at hst1
        have q0 := cell_regrown hst1
        clear hst hst1
        have cI : Hid (∀ W : World, Calls Tryz.prog 36 #[.int .i64 s1, .int .i64 1, .int .i64 9999] W fun e w' => e = .returned (.bool (idB s1)) ∧ Below W.heap.size W w') := yz (fun W => (l02Is_any s1 1 9999 W).mono fun e w' h => ⟨h.1, by rw [h.2]; exact Below.refl _ _⟩)
        have cR := yz (fun W => specRight_any s2 s3 s4 W)
        have cW := yz (fun W => l02Within_any 10 s2 s3 s4 W (by omega) (by omega))
        cases hid : idB s1
        · have HO : Hid (skyB L = false) := yz (sky_no (k := 0) (by rw [yy HL]; exact hkn) (okAt_no1 (yy HT) hid))
          rw [hid] at cI
          refine wp_region_quiet_below (by kernel_rfl) (by kernel_rfl) ?_
          repeat (go_big_quiet_step (first | (with_reducible exact Calls.regrown_of (yy cI _))))
          refine wpQuiet_nil ?_
          intro _ hw'
          obtain ⟨⟨dq, osq⟩, hw''⟩ := hw'
          subst hw''
          have hx := below_call (yy HB1) (below_regrown W1 dq osq)
          go_wp2_with fail
          go_ret
          exact ⟨by rw [yy HO]; rfl, hx⟩
        · rw [hid] at cI
          have HU : Hid (upB L 0 = true) := yz rfl
          cases hr : rightB s2 s3 s4
          · have HO : Hid (skyB L = false) := yz (sky_no (k := 0) (by rw [yy HL]; exact hkn) (okAt_no3 (yy HT) (by unfold smallB; rw [hr]; rfl)))
            rw [hr] at cR
            refine wp_region_quiet_below (by kernel_rfl) (by kernel_rfl) ?_
            repeat (go_big_quiet_step (first | (with_reducible exact Calls.regrown_of (yy cI _)) | (with_reducible exact Calls.regrown_of (yy cR _))))
            refine wpQuiet_nil ?_
            intro _ hw'
            obtain ⟨⟨dq, osq⟩, hw''⟩ := hw'
            subst hw''
            have hx := below_call (yy HB1) (below_regrown W1 dq osq)
            go_wp2_with fail
            go_ret
            exact ⟨by rw [yy HO]; rfl, hx⟩
          · rw [hr] at cR
            have cP := yz (fun W => l02Prime_any s2 s3 s4 W hr)
            cases hwi : withinB 10 s2 s3 s4
            · have HO : Hid (skyB L = false) := yz (sky_no (k := 0) (by rw [yy HL]; exact hkn) (okAt_no3 (yy HT) (by unfold smallB; rw [hwi]; simp)))
              rw [hwi] at cW
              refine wp_region_quiet_below (by kernel_rfl) (by kernel_rfl) ?_
              repeat (go_big_quiet_step (first | (with_reducible exact Calls.regrown_of (yy cI _)) | (with_reducible exact Calls.regrown_of (yy cR _)) | (with_reducible exact Calls.regrown_of (yy cW _))))
              refine wpQuiet_nil ?_
              intro _ hw'
              obtain ⟨⟨dq, osq⟩, hw''⟩ := hw'
              subst hw''
              have hx := below_call (yy HB1) (below_regrown W1 dq osq)
              go_wp2_with fail
              go_ret
              exact ⟨by rw [yy HO]; rfl, hx⟩
            · rw [hwi] at cW
              have hq := fun W => neq_vec (wrap64 (s2.tdiv (gI s2 s3 s4))) (wrap64 (s3.tdiv (gI s2 s3 s4))) (wrap64 (s4.tdiv (gI s2 s3 s4))) s2 s3 s4 W
              have hq2 : eqB (wrap64 (s2.tdiv (gI s2 s3 s4))) (wrap64 (s3.tdiv (gI s2 s3 s4))) (wrap64 (s4.tdiv (gI s2 s3 s4))) s2 s3 s4 = primeB s2 s3 s4 := by rw [eqB_comm]; unfold primeB prI; rw [hr]; rfl
              rw [hq2] at hq
              clear hq2
              generalize wrap64 (s2.tdiv (gI s2 s3 s4)) = t2 at cP hq
              generalize wrap64 (s3.tdiv (gI s2 s3 s4)) = t3 at cP hq
              generalize wrap64 (s4.tdiv (gI s2 s3 s4)) = t4 at cP hq
              cases hpr : primeB s2 s3 s4
              · have HO : Hid (skyB L = false) := yz (sky_no (k := 0) (by rw [yy HL]; exact hkn) (okAt_no4 (yy HT) hpr))
                rw [hpr] at hq
                refine wp_region_quiet_below (by kernel_rfl) (by kernel_rfl) ?_
                repeat (go_big_quiet_step (first | (with_reducible exact Calls.regrown_of (yy cI _)) | (with_reducible exact Calls.regrown_of (yy cR _)) | (with_reducible exact Calls.regrown_of (yy cW _)) | (with_reducible exact Calls.regrown_of (yy cP _))))
                refine wpQuiet_nil ?_
                intro _ hw'
                obtain ⟨⟨dq, osq⟩, hw''⟩ := hw'
                subst hw''
                have hx := below_call (yy HB1) (below_regrown W1 dq osq)
                go_wp2_with fail
                go_ret
                exact ⟨by rw [yy HO]; rfl, hx⟩
              · rw [hpr] at hq
                have HM : Hid (smallB s2 s3 s4 = true) := yz (by unfold smallB; rw [hr, hwi]; rfl)
                have HI := yz hid
                have HPR := yz hpr
                refine wp_region_quiet_below (by kernel_rfl) (by kernel_rfl) ?_
                repeat (go_big_quiet_step (first | (with_reducible exact Calls.regrown_of (yy cI _)) | (with_reducible exact Calls.regrown_of (yy cR _)) | (with_reducible exact Calls.regrown_of (yy cW _)) | (with_reducible exact Calls.regrown_of (yy cP _))))
                refine wpQuiet_nil ?_
                intro _ hw'
                obtain ⟨⟨dq, osq⟩, hw''⟩ := hw'
                subst hw''
                have hx := below_regrown W1 dq osq
                have hb2 := below_call (yy HB1) hx
                have hn2 := (yy HN1).kept (vlt (yy HN1)) hx
                generalize grow (redrawn W1 dq) osq = W2 at hb2 hn2 hx ⊢
                have HB2 := yz hb2
                have HN2 := yz hn2
                clear hx hb2 hn2 r0 r1 r2 q0 hq cI cR cW cP hid hpr hwi hr HB1 HN1
                go_wp2_with fail
                go_loopw [5] (fun i wr => ∃ m : Nat, m ≤ 0 ∧ i = .int .i64 m ∧ Hid (freeTo L (stA L (0)) m) ∧ Hid (Below w.heap.size w wr) ∧ Hid (VecAt wr vb s2 s3 s4)) (fun i _ => (0) - (intOf i).toNat)
                case atStart => exact ⟨0, by omega, rfl, yz (fun j hj => absurd hj (Nat.not_lt_zero _)), HB2, HN2⟩
                case round =>
                  obtain ⟨m, hm, rfl, HE, HB3, HN3⟩ := hrel
                  by_cases hmk : m < 0
                  · omega
                  · have hmk' : m = 0 := by omega
                    subst hmk'
                    have HF2 := yz (ok_step (yy HF) (okAt_yes (yy HT) (yy HI) (yy HU) (yy HM) (yy HPR) (taken_no (yy HE))))
                    go_wp2_with fail
                    go_roundw
                    case rel => exact ⟨0 + 1, by omega, by go_num, HF2, HB3⟩
                    case measure => simp [intOf]; omega
      · obtain ⟨j, hkj⟩ : ∃ j, k = j + 1 := ⟨k - 1, by omega⟩
        have HK : Hid (k - 1 = j) := yz (by omega)
        have HKJ := yz hkj
        have hjk : j < k := by omega
        clear hkj
        obtain ⟨⟨p1, p2, p3, p4⟩, hp⟩ : ∃ s, stA L j = s := ⟨_, rfl⟩
        have HP := yz hp
        clear hp
        go_wp2_with fail
        clear c0 c1 c2 c3
        have hb1 := yy B1
        have hn1 := yy N1
        generalize hwe : wr.alloc (.cells #[.int .i64 s2, .int .i64 s3, .int .i64 s4] 76) = W1 at hb1 hn1 ⊢
        generalize hwb : wr.heap.size = vb at hn1 ⊢
        have HB1 := yz hb1
        have HN1 := yz hn1
        clear hwe hwb hb1 hn1 B1 N1 HB
        obtain ⟨v0, v1, v2⟩ := yy HN1
        have r0 := cell_regrown v0
        have r1 := cell_regrown v1
        have r2 := cell_regrown v2
        clear v0 v1 v2
        have hst := ((yy HC) (k) hkn).kept hb (yy HB1)
        rw [yy HT] at hst
        have q0 := cell_regrown hst.1
        clear hst
        have hst := ((yy HC) j (by omega)).kept hb (yy HB1)
        rw [yy HP] at hst
        have q1 := cell_regrown hst.1
        clear hst
        have hj1 : (k : Int) - 1 = (j : Int) := by have := yy HKJ; omega
        have hj2 : (0 : Int) < (k : Int) := by omega
        have hj3 : (j : Int) < (n : Int) := by omega
        have cI : Hid (∀ W : World, Calls Tryz.prog 36 #[.int .i64 s1, .int .i64 1, .int .i64 9999] W fun e w' => e = .returned (.bool (idB s1)) ∧ Below W.heap.size W w') := yz (fun W => (l02Is_any s1 1 9999 W).mono fun e w' h => ⟨h.1, by rw [h.2]; exact Below.refl _ _⟩)
        have cR := yz (fun W => specRight_any s2 s3 s4 W)
        have cW := yz (fun W => l02Within_any 10 s2 s3 s4 W (by omega) (by omega))
        cases hid : idB s1
        · have HO : Hid (skyB L = false) := yz (sky_no (k := k) (by rw [yy HL]; exact hkn) (okAt_no1 (yy HT) hid))
          rw [hid] at cI
          refine wp_region_quiet_below (by kernel_rfl) (by kernel_rfl) ?_
          repeat (go_big_quiet_step (first | (with_reducible exact Calls.regrown_of (yy cI _))))
          refine wpQuiet_nil ?_
          intro _ hw'
          obtain ⟨⟨dq, osq⟩, hw''⟩ := hw'
          subst hw''
          have hx := below_call (yy HB1) (below_regrown W1 dq osq)
          go_wp2_with fail
          go_ret
          exact ⟨by rw [yy HO]; rfl, hx⟩
        · rw [hid] at cI
          by_cases hup : s1 ≤ p1
          · have HO : Hid (skyB L = false) := yz (sky_no (k := k) (by rw [yy HL]; exact hkn) (okAt_no2 (by unfold upB; rw [yy HK, yy HT]; simp [yy HP]; omega)))
            refine wp_region_quiet_below (by kernel_rfl) (by kernel_rfl) ?_
            repeat (go_big_quiet_step (first | (with_reducible exact Calls.regrown_of (yy cI _))))
            refine wpQuiet_nil ?_
            intro _ hw'
            obtain ⟨⟨dq, osq⟩, hw''⟩ := hw'
            subst hw''
            have hx := below_call (yy HB1) (below_regrown W1 dq osq)
            go_wp2_with fail
            go_ret
            exact ⟨by rw [yy HO]; rfl, hx⟩
          have HU : Hid (upB L k = true) := yz (by unfold upB; rw [yy HK, yy HT]; simp [yy HP]; omega)
          have hup2 : decide (s1 ≤ p1) = false := by simp; omega
          clear hup
          cases hr : rightB s2 s3 s4
          · have HO : Hid (skyB L = false) := yz (sky_no (k := k) (by rw [yy HL]; exact hkn) (okAt_no3 (yy HT) (by unfold smallB; rw [hr]; rfl)))
            rw [hr] at cR
            refine wp_region_quiet_below (by kernel_rfl) (by kernel_rfl) ?_
            repeat (go_big_quiet_step (first | (with_reducible exact Calls.regrown_of (yy cI _)) | (with_reducible exact Calls.regrown_of (yy cR _))))
            refine wpQuiet_nil ?_
            intro _ hw'
            obtain ⟨⟨dq, osq⟩, hw''⟩ := hw'
            subst hw''
            have hx := below_call (yy HB1) (below_regrown W1 dq osq)
            go_wp2_with fail
            go_ret
            exact ⟨by rw [yy HO]; rfl, hx⟩
          · rw [hr] at cR
            have cP := yz (fun W => l02Prime_any s2 s3 s4 W hr)
            cases hwi : withinB 10 s2 s3 s4
            · have HO : Hid (skyB L = false) := yz (sky_no (k := k) (by rw [yy HL]; exact hkn) (okAt_no3 (yy HT) (by unfold smallB; rw [hwi]; simp)))
              rw [hwi] at cW
              refine wp_region_quiet_below (by kernel_rfl) (by kernel_rfl) ?_
              repeat (go_big_quiet_step (first | (with_reducible exact Calls.regrown_of (yy cI _)) | (with_reducible exact Calls.regrown_of (yy cR _)) | (with_reducible exact Calls.regrown_of (yy cW _))))
              refine wpQuiet_nil ?_
              intro _ hw'
              obtain ⟨⟨dq, osq⟩, hw''⟩ := hw'
              subst hw''
              have hx := below_call (yy HB1) (below_regrown W1 dq osq)
              go_wp2_with fail
              go_ret
              exact ⟨by rw [yy HO]; rfl, hx⟩
            · rw [hwi] at cW
              have hq := fun W => neq_vec (wrap64 (s2.tdiv (gI s2 s3 s4))) (wrap64 (s3.tdiv (gI s2 s3 s4))) (wrap64 (s4.tdiv (gI s2 s3 s4))) s2 s3 s4 W
              have hq2 : eqB (wrap64 (s2.tdiv (gI s2 s3 s4))) (wrap64 (s3.tdiv (gI s2 s3 s4))) (wrap64 (s4.tdiv (gI s2 s3 s4))) s2 s3 s4 = primeB s2 s3 s4 := by rw [eqB_comm]; unfold primeB prI; rw [hr]; rfl
              rw [hq2] at hq
              clear hq2
              generalize wrap64 (s2.tdiv (gI s2 s3 s4)) = t2 at cP hq
              generalize wrap64 (s3.tdiv (gI s2 s3 s4)) = t3 at cP hq
              generalize wrap64 (s4.tdiv (gI s2 s3 s4)) = t4 at cP hq
              cases hpr : primeB s2 s3 s4
              · have HO : Hid (skyB L = false) := yz (sky_no (k := k) (by rw [yy HL]; exact hkn) (okAt_no4 (yy HT) hpr))
                rw [hpr] at hq
                refine wp_region_quiet_below (by kernel_rfl) (by kernel_rfl) ?_
                repeat (go_big_quiet_step (first | (with_reducible exact Calls.regrown_of (yy cI _)) | (with_reducible exact Calls.regrown_of (yy cR _)) | (with_reducible exact Calls.regrown_of (yy cW _)) | (with_reducible exact Calls.regrown_of (yy cP _))))
                refine wpQuiet_nil ?_
                intro _ hw'
                obtain ⟨⟨dq, osq⟩, hw''⟩ := hw'
                subst hw''
                have hx := below_call (yy HB1) (below_regrown W1 dq osq)
                go_wp2_with fail
                go_ret
                exact ⟨by rw [yy HO]; rfl, hx⟩
              · rw [hpr] at hq
                have HM : Hid (smallB s2 s3 s4 = true) := yz (by unfold smallB; rw [hr, hwi]; rfl)
                have HI := yz hid
                have HPR := yz hpr
                refine wp_region_quiet_below (by kernel_rfl) (by kernel_rfl) ?_
                repeat (go_big_quiet_step (first | (with_reducible exact Calls.regrown_of (yy cI _)) | (with_reducible exact Calls.regrown_of (yy cR _)) | (with_reducible exact Calls.regrown_of (yy cW _)) | (with_reducible exact Calls.regrown_of (yy cP _))))
                refine wpQuiet_nil ?_
                intro _ hw'
                obtain ⟨⟨dq, osq⟩, hw''⟩ := hw'
                subst hw''
                have hx := below_regrown W1 dq osq
                have hb2 := below_call (yy HB1) hx
                have hn2 := (yy HN1).kept (vlt (yy HN1)) hx
                generalize grow (redrawn W1 dq) osq = W2 at hb2 hn2 hx ⊢
                have HB2 := yz hb2
                have HN2 := yz hn2
                clear hx hb2 hn2 r0 r1 r2 q0 hq cI cR cW cP hid hpr hwi hr HB1 HN1 q1 hup2
                go_wp2_with fail
                go_loopw [5] (fun i wr => ∃ m : Nat, m ≤ k ∧ i = .int .i64 m ∧ Hid (freeTo L (stA L (k)) m) ∧ Hid (Below w.heap.size w wr) ∧ Hid (VecAt wr vb s2 s3 s4)) (fun i _ => (k) - (intOf i).toNat)
                case atStart => exact ⟨0, by omega, rfl, yz (fun j hj => absurd hj (Nat.not_lt_zero _)), HB2, HN2⟩
                case round =>
                  obtain ⟨m, hm, rfl, HE, HB3, HN3⟩ := hrel
                  by_cases hmk : m < k
                  · obtain ⟨⟨t1, t2, t3, t4⟩, ht⟩ : ∃ s, stA L m = s := ⟨_, rfl⟩
                    have hst := ((yy HC) m (by omega)).kept hb (yy HB3)
                    rw [ht] at hst
                    have hmn : (m : Int) < (n : Int) := by omega
                    have hmj : (m : Int) < (k : Int) := by omega
                    obtain ⟨_, g1, g2, g3⟩ := hst
                    have k1 := cell_regrown g1
                    have k2 := cell_regrown g2
                    have k3 := cell_regrown g3
                    clear g1 g2 g3
                    obtain ⟨v0, v1, v2⟩ := yy HN3
                    have r0 := cell_regrown v0
                    have r1 := cell_regrown v1
                    have r2 := cell_regrown v2
                    clear v0 v1 v2
                    have HQ : Hid (sameS (stA L k) (stA L m) = (eqB (crW t3 t4 s3 s4) (crW t4 t2 s4 s2) (crW t2 t3 s2 s3) 0 0 0 && decide (0 < dotW t2 t3 t4 s2 s3 s4))) := yz (by
                      have hsm := ok_small ((yy HF) m (by omega))
                      rw [ht] at hsm
                      have e := same_eq hsm (yy HM)
                      rw [sameB_comm hsm (yy HM)] at e
                      rw [ht, yy HT]
                      exact e.symm)
                    have cE := yz (fun W => l02Same_any t2 t3 t4 s2 s3 s4 W)
                    generalize (eqB (crW t3 t4 s3 s4) (crW t4 t2 s4 s2) (crW t2 t3 s2 s3) 0 0 0 && decide (0 < dotW t2 t3 t4 s2 s3 s4)) = y at HQ cE
                    clear ht
                    go_wp2_with fail
                    refine wp_region_quiet_below (by kernel_rfl) (by kernel_rfl) ?_
                    repeat (go_big_quiet_step (first | (with_reducible exact Calls.regrown_of (yy cE _))))
                    refine wpQuiet_nil ?_
                    intro _ hw'
                    obtain ⟨⟨dq, osq⟩, hw''⟩ := hw'
                    subst hw''
                    have hx := below_regrown wr dq osq
                    have hb4 := below_call (yy HB3) hx
                    have hn4 := (yy HN3).kept (vlt (yy HN3)) hx
                    generalize grow (redrawn wr dq) osq = W4 at hx hb4 hn4 ⊢
                    have HB4 := yz hb4
                    have HN4 := yz hn4
                    clear hx hb4 hn4 r0 r1 r2 k1 k2 k3 cE HB3 HN3
                    cases y
                    · go_wp2_with fail
                      go_roundw
                      case rel => exact ⟨m + 1, by omega, by go_num, yz (free_step (yy HE) (yy HQ)), HB4, HN4⟩
                      case measure => simp [intOf]; omega
                    · have HO : Hid (skyB L = false) := yz (sky_no (k := k) (by rw [yy HL]; exact hkn) (okAt_no5 (taken_yes hmk (yy HQ))))
                      go_wp2_with fail
                      go_ret
                      exact ⟨by rw [yy HO]; rfl, yy HB4⟩
                  · have hmk' : m = k := by omega
                    subst hmk'
                    have HF2 := yz (ok_step (yy HF) (okAt_yes (yy HT) (yy HI) (yy HU) (yy HM) (yy HPR) (taken_no (yy HE))))
                    go_wp2_with fail
                    go_roundw
                    case rel => exact ⟨m + 1, by omega, by go_num, HF2, HB3⟩
                    case measure => simp [intOf]; omega
    · have hkn' : k = n := by omega
      subst hkn'
      have HO := yz (sky_yes (L := L) (by rw [yy HL]; omega) (by rw [yy HL]; exact yy HF))
      go_wp2_with fail
      go_ret
      exact ⟨by rw [yy HO]; rfl, yy HB⟩
def FreeS (w : World) (b o : Nat) : Prop := w.frozen? ⟨b, o, none⟩ = false ∧ w.frozen? ⟨b, o + 1, none⟩ = false ∧ w.frozen? ⟨b, o + 2, none⟩ = false ∧ w.frozen? ⟨b, o + 3, none⟩ = false
theorem FreeS.kept {w w' : World} {b o : Nat} (h : FreeS w b o) (hb : b < w.heap.size) (hB : Below w.heap.size w w') : FreeS w' b o := by
  obtain ⟨h0, h1, h2, h3⟩ := h
  exact ⟨by rw [hB.frozen (p := ⟨b, o, none⟩) hb]; exact h0, by rw [hB.frozen (p := ⟨b, o + 1, none⟩) hb]; exact h1, by rw [hB.frozen (p := ⟨b, o + 2, none⟩) hb]; exact h2, by rw [hB.frozen (p := ⟨b, o + 3, none⟩) hb]; exact h3⟩
def OwnS (w : World) (b n : Nat) (L : List St) (k : Nat) : Prop := ∃ cur : Array Value, w.heap[b]? = some (.cells cur 78 (0, 0)) ∧ cur.size = n * 4 ∧
  ∀ j, j < k → cur[j * 4]? = some (.int .i64 (stA L j).1) ∧ cur[j * 4 + 1]? = some (.int .i64 (stA L j).2.1) ∧ cur[j * 4 + 2]? = some (.int .i64 (stA L j).2.2.1) ∧ cur[j * 4 + 3]? = some (.int .i64 (stA L j).2.2.2)
theorem OwnS.lt {w : World} {b n k : Nat} {L : List St} (h : OwnS w b n L k) : b < w.heap.size := by
  obtain ⟨cur, hc, _⟩ := h
  exact (Array.getElem?_eq_some_iff.1 hc).1
theorem OwnS.kept {w w' : World} {b n k : Nat} {L : List St} (h : OwnS w b n L k) (hB : Below w.heap.size w w') : OwnS w' b n L k := by
  have hl := h.lt
  obtain ⟨cur, hc, r⟩ := h
  exact ⟨cur, by rw [hB.block b hl]; exact hc, r⟩
theorem OwnS.stars {w : World} {b n k : Nat} {L : List St} (h : OwnS w b n L k) : Stars w (some ⟨b, 0, none⟩) L k := by
  have hl := h.lt
  obtain ⟨cur, hc, _, hs⟩ := h
  refine .inr ⟨b, 0, rfl, hl, fun i hi => ?_⟩
  obtain ⟨h0, h1, h2, h3⟩ := hs i hi
  rw [Nat.zero_add]
  exact ⟨by rw [cell_of_row w b _ cur _ _ hc]; exact h0, by rw [cell_of_row w b _ cur _ _ hc]; exact h1, by rw [cell_of_row w b _ cur _ _ hc]; exact h2, by rw [cell_of_row w b _ cur _ _ hc]; exact h3⟩
theorem OwnS.free {w : World} {b n k : Nat} {L : List St} (h : OwnS w b n L k) (i : Nat) : w.frozen? ⟨b, i, none⟩ = false := by
  obtain ⟨cur, hc, _⟩ := h
  exact frozen_of_row w b i cur _ hc
theorem info_star : (Tryz.prog.info? 78).map (fun i => (i.zero, i.size, i.bytes)) = some (some (.agg #[.int .i64 0, .int .i64 0, .int .i64 0, .int .i64 0]), 4, 32) := by kernel_rfl
end Go.Proofs.YtofpjlhoppofdaaGreatDoor
