/- Several texts in one: Tz, Plain, VecMath, VecA, SkyA, SkyMath, VecB, VecC, VecD, VecF, VecG, VecE, VecH, VecI, SkyB, Place, IdM, Bytes, DecT, FrA. -/
import Derived.Deep.RegionHeld
import Derived.WalkKit
import Derived.Laws.BitsAllLaws
import Derived.Test.YtdchjcadhlkpfaaGreatDoorChecked
import Derived.Below
import Derived.Laws.StructEq
import Derived.WalkLawsBesides
import Derived.LaidEql
import Derived.Stop.Asserts
import Derived.RowKitTokens
import Derived.Deep.RegionWith
import Derived.Deep.QuietTactic
import Derived.BigQuiet
import Derived.BigRegion
import Derived.Lib.QuietBelow
import Derived.Deep.DeepCutAuto
import Derived.Test.YtdchjcadhlkpfaaGreatDoorRows
import Derived.WalkSpells
import Derived.Lib.BufferWrite
import Derived.Lib.SlBytesRow
import Derived.Lib.ItoaMem
import Derived.Lib.ItoaNum
namespace Go.Proofs.YtdchjcadhlkpfaaGreatDoor
set_option linter.unusedVariables false
set_option linter.unusedSimpArgs false
set_option maxRecDepth 100000
set_option maxHeartbeats 8000000
section
theorem ac {P : Program} {ops : Array Oper} {Q : Exit → Act → World → Prop} {md : Region.Mode} {S : World → Prop} {fuel : Nat} {listed : Array Bool} {a : Act} {w : World} (i : Nat) {oi : Oper} {v : Value} (hi : ops[i]? = some oi) (h : wpAnyH P md ops Q S fuel (listed.setIfInBounds i true) (a.put oi.dst v) w) (hs : Region.noSelect ops = true := by kernel_rfl) (hf : Region.free md ops listed i = true := by kernel_rfl) (hr : (Region.ready md ops listed).contains i = true := by kernel_rfl) (hQ : ∀ c a w, Q (.panic c) (a.put oi.dst v) w → Q (.panic c) a w := by exact fun _ _ _ h => h) (hw : Region.wanted oi (yielded ops a.tmps) = true := by kernel_rfl) (hy : ∀ w, S w → (execOp a.eval oi).run P w = .ok (.value v) w := by (intro W0 hSw; (try dsimp only at hSw); go_simp <;> with_reducible rfl)) (hS : S w := by assumption) : wpAnyH P md ops Q S (fuel + 1) listed a w := wpAnyH_take hi hs hf hr hQ (Or.inl ⟨hw, hy⟩) hS h
theorem af {P : Program} {ops : Array Oper} {Q : Exit → Act → World → Prop} {md : Region.Mode} {S : World → Prop} {fuel : Nat} {listed : Array Bool} {a : Act} {w : World} (i : Nat) {o : Oper} (ho : ops[i]? = some o) (h : (∀ K' : Act → World → Prop, Shut (∀ a w, S w → (S w → wpAnyH P md ops Q S fuel (listed.setIfInBounds i true) a w) → K' a w) → if Region.wanted o (yielded ops a.tmps) = true then Oper.wp P o a w K' Q else K' (a.put o.dst undef) w)) (hr : Region.ready md ops listed = [i] := by kernel_rfl) : wpAnyH P md ops Q S (fuel + 1) listed a w := wpAnyH_ready hr (by simp) (AllReadyH.cons ho h AllReadyH.nil)
theorem ag {P : Program} {ops : Array Oper} {Q : Exit → Act → World → Prop} {md : Region.Mode} {S : World → Prop} {fuel : Nat} {listed : Array Bool} {a : Act} {w : World} (i j : Nat) {o u : Oper} (ho : ops[i]? = some o) (h : (∀ K' : Act → World → Prop, Shut (∀ a w, S w → (S w → wpAnyH P md ops Q S fuel (listed.setIfInBounds i true) a w) → K' a w) → if Region.wanted o (yielded ops a.tmps) = true then Oper.wp P o a w K' Q else K' (a.put o.dst undef) w)) (hu : ops[j]? = some u) (g : (∀ K' : Act → World → Prop, Shut (∀ a w, S w → (S w → wpAnyH P md ops Q S fuel (listed.setIfInBounds j true) a w) → K' a w) → if Region.wanted u (yielded ops a.tmps) = true then Oper.wp P u a w K' Q else K' (a.put u.dst undef) w)) (hr : Region.ready md ops listed = [i, j] := by kernel_rfl) : wpAnyH P md ops Q S (fuel + 1) listed a w := wpAnyH_ready hr (by simp) (AllReadyH.cons ho h (AllReadyH.cons hu g AllReadyH.nil))
theorem ah {α : Type} (i : Nat) (x : α) (l : List α) : l.toArray.setIfInBounds i x = (l.set i x).toArray := List.setIfInBounds_toArray ..
theorem ai {α : Type} (x y : α) (l : List α) : (x :: l).set 0 y = y :: l := rfl
theorem aj {α : Type} (x y : α) (l : List α) (n : Nat) : (x :: l).set (n + 1) y = x :: l.set n y := rfl
end
section
open Go.RowKit
theorem yz {p : Prop} (h : p) : Hid p := h
theorem yy {p : Prop} (h : Hid p) : p := h
def jU (s : ByteArray) (i : Nat) : Nat := if h : i < s.size then s[i].toNat else 0
theorem ns {s : ByteArray} {k : Nat} (h : k < s.size) : jU s k = s[k].toNat := by simp [jU, h]
end
section
open Go.RowKit
def inB (m x : Int) : Bool := decide (-m ≤ x ∧ x ≤ m)
def aJ (m x y z : Int) : Bool := inB m x && inB m y && inB m z
def lG (x y z : Int) : Bool := decide (x = 0 ∧ y = 0 ∧ z = 0)
def aw (x y z : Int) : Bool := aJ 1000000 x y z && !lG x y z
theorem dY {m x : Int} : inB m x = true ↔ -m ≤ x ∧ x ≤ m := by simp [inB]
theorem bu {m x y z : Int} : aJ m x y z = true ↔ (-m ≤ x ∧ x ≤ m) ∧ (-m ≤ y ∧ y ≤ m) ∧ (-m ≤ z ∧ z ≤ m) := by
 simp [aJ, dY, and_assoc]
theorem kp {x y z : Int} : aw x y z = true ↔ ((-1000000 ≤ x ∧ x ≤ 1000000) ∧ (-1000000 ≤ y ∧ y ≤ 1000000) ∧ (-1000000 ≤ z ∧ z ≤ 1000000)) ∧ ¬ (x = 0 ∧ y = 0 ∧ z = 0) := by
 unfold aw
 rw [Bool.and_eq_true, bu]
 simp only [lG, Bool.not_eq_true', decide_eq_false_iff_not]
theorem ap {n : Int} (h0 : -9223372036854775808 ≤ n) (h1 : n ≤ 9223372036854775807) : wrap64 n = n := by
 exact Go.IntWalk.wrap64_in n ⟨h0, h1⟩
theorem bq {a b A B : Int} (h1 : -A ≤ a ∧ a ≤ A) (h3 : -B ≤ b ∧ b ≤ B) : -(A * B) ≤ a * b ∧ a * b ≤ A * B := by
 have h : (a * b).natAbs ≤ A.natAbs * B.natAbs := by
  rw [Int.natAbs_mul]; exact Nat.mul_le_mul (by omega) (by omega)
 have : ((A.natAbs * B.natAbs : Nat) : Int) = A * B := by
  rw [Int.natCast_mul, Int.natAbs_of_nonneg (by omega), Int.natAbs_of_nonneg (by omega)]
 omega
def el (a1 a2 a3 b1 b2 b3 : Int) : Int := wrap64 (wrap64 (wrap64 (a1 * b1) + wrap64 (a2 * b2)) + wrap64 (a3 * b3))
def dot (a1 a2 a3 b1 b2 b3 : Int) : Int := a1 * b1 + a2 * b2 + a3 * b3
def crW (a2 a3 b2 b3 : Int) : Int := wrap64 (wrap64 (a2 * b3) - wrap64 (a3 * b2))
theorem dZ {a1 a2 a3 b1 b2 b3 A B : Int} (ha : aJ A a1 a2 a3 = true) (hb : aJ B b1 b2 b3 = true) : -(3 * (A * B)) ≤ dot a1 a2 a3 b1 b2 b3 ∧ dot a1 a2 a3 b1 b2 b3 ≤ 3 * (A * B) := by
 rw [bu] at ha hb
 have h1 := bq ha.1 hb.1
 have h2 := bq ha.2.1 hb.2.1
 have h3 := bq ha.2.2 hb.2.2
 unfold dot
 omega
theorem dW {a1 a2 a3 b1 b2 b3 A B : Int} (ha : aJ A a1 a2 a3 = true) (hb : aJ B b1 b2 b3 = true) (h : 3 * (A * B) ≤ 9223372036854775807) : el a1 a2 a3 b1 b2 b3 = dot a1 a2 a3 b1 b2 b3 := by
 rw [bu] at ha hb
 have h1 := bq ha.1 hb.1
 have h2 := bq ha.2.1 hb.2.1
 have h3 := bq ha.2.2 hb.2.2
 unfold el dot
 rw [ap (n := a1 * b1) (by omega) (by omega), ap (n := a2 * b2) (by omega) (by omega), ap (n := a3 * b3) (by omega) (by omega), ap (n := a1 * b1 + a2 * b2) (by omega) (by omega), ap (by omega) (by omega)]
def mF (a1 a2 a3 b1 b2 b3 : Int) : Int := if aw a1 a2 a3 && aw b1 b2 b3 then el a1 a2 a3 b1 b2 b3 else 0
def crI (r : Bool) (a2 a3 b2 b3 : Int) : Int := if r then crW a2 a3 b2 b3 else 0
def mZ (a1 a2 a3 b1 b2 b3 c1 c2 c3 : Int) : Int :=
 if aw a1 a2 a3 && aw b1 b2 b3 && aw c1 c2 c3 then el (crW a2 a3 b2 b3) (crW a3 a1 b3 b1) (crW a1 a2 b1 b2) c1 c2 c3 else 0
def gI (x y z : Int) : Int := ((Int.gcd (Int.gcd x y : Int) z : Nat) : Int)
def prI (r : Bool) (g x : Int) : Int := if r then wrap64 (x.tdiv g) else 0
def gU (a1 a2 a3 b1 b2 b3 : Int) : Bool :=
 aw a1 a2 a3 && aw b1 b2 b3 && lG (crW a2 a3 b2 b3) (crW a3 a1 b3 b1) (crW a1 a2 b1 b2) && decide (0 < el a1 a2 a3 b1 b2 b3)
theorem sB (a b : Int) : Int.gcd b (a.tmod b) = Int.gcd a b := by
 show Nat.gcd b.natAbs (a.tmod b).natAbs = Nat.gcd a.natAbs b.natAbs
 rw [Int.natAbs_tmod, Nat.gcd_comm b.natAbs, ← Nat.gcd_rec, Nat.gcd_comm]
theorem sX (a : Int) : ((Int.gcd a 0 : Nat) : Int) = if a < 0 then -a else a := by
 rw [Int.gcd_zero_right]
 split <;> omega
theorem pW (a b : Int) (h : b ≠ 0) : (a.tmod b).natAbs < b.natAbs := by
 rw [Int.natAbs_tmod]; exact Nat.mod_lt _ (by omega)
theorem mq {a b m : Int} (ha : -m ≤ a ∧ a ≤ m) (hb : -m ≤ b ∧ b ≤ m) : 0 ≤ ((Int.gcd a b : Nat) : Int) ∧ ((Int.gcd a b : Nat) : Int) ≤ m := by
 refine ⟨by omega, ?_⟩
 by_cases h : a = 0
 ·subst h; rw [Int.gcd_zero_left]; omega
 ·have := Nat.le_of_dvd (by omega) (Nat.gcd_dvd_left a.natAbs b.natAbs)
  have e : Int.gcd a b = Nat.gcd a.natAbs b.natAbs := rfl
  omega
theorem qI (x y z : Int) : ((Int.gcd ((Int.gcd ((Int.gcd 0 x : Nat) : Int) y : Nat) : Int) z : Nat) : Int) = gI x y z := by
 unfold gI
 have : Int.gcd ((Int.gcd 0 x : Nat) : Int) y = Int.gcd x y := by
  rw [Int.gcd_zero_left]
  show Nat.gcd (x.natAbs : Int).natAbs y.natAbs = Nat.gcd x.natAbs y.natAbs
  rw [Int.natAbs_natCast]
 rw [this]
theorem vG {x y z : Int} (h : aw x y z = true) : 0 < gI x y z := by
 rw [kp] at h
 unfold gI
 have h2 : Int.gcd ((Int.gcd x y : Nat) : Int) z ≠ 0 := by
  intro e
  rw [Int.gcd_eq_zero_iff] at e
  have e1 : Int.gcd x y = 0 := by omega
  rw [Int.gcd_eq_zero_iff] at e1
  exact h.2 ⟨e1.1, e1.2, e.2⟩
 omega
def ja (a b : Int) : Int := if a < b then -1 else if b < a then 1 else 0
def ssq (n : Int) : Int := if n < 0 then -n * n else n * n
def jz (n : Int) : Int := if n < 0 then wrap64 (wrap64 (-n) * n) else wrap64 (n * n)
def cc (x y z : Int) : Bool := aw x y z && aJ 1800 x y z
def ba (x y z : Int) : Bool := aw x y z && aJ 10 x y z
def oI (a1 a2 a3 b1 b2 b3 c1 c2 c3 d1 d2 d3 : Int) : Int :=
 if cc a1 a2 a3 && cc b1 b2 b3 && ba c1 c2 c3 && ba d1 d2 d3 then
  ja (ssq (dot a1 a2 a3 b1 b2 b3) * (dot c1 c2 c3 c1 c2 c3 * dot d1 d2 d3 d1 d2 d3)) (ssq (dot c1 c2 c3 d1 d2 d3) * (dot a1 a2 a3 a1 a2 a3 * dot b1 b2 b3 b1 b2 b3))
 else 0
theorem sw {a1 a2 a3 b1 b2 b3 c1 c2 c3 d1 d2 d3 : Int} (ha : aJ 1800 a1 a2 a3 = true) (hb : aJ 1800 b1 b2 b3 = true) (hc : aJ 10 c1 c2 c3 = true) (hd : aJ 10 d1 d2 d3 = true) :
  wrap64 (jz (el a1 a2 a3 b1 b2 b3) * wrap64 (el c1 c2 c3 c1 c2 c3 * el d1 d2 d3 d1 d2 d3)) = ssq (dot a1 a2 a3 b1 b2 b3) * (dot c1 c2 c3 c1 c2 c3 * dot d1 d2 d3 d1 d2 d3) ∧
  wrap64 (jz (el c1 c2 c3 d1 d2 d3) * wrap64 (el a1 a2 a3 a1 a2 a3 * el b1 b2 b3 b1 b2 b3)) = ssq (dot c1 c2 c3 d1 d2 d3) * (dot a1 a2 a3 a1 a2 a3 * dot b1 b2 b3 b1 b2 b3) := by
 rw [dW ha hb (by omega), dW hc hc (by omega), dW hd hd (by omega), dW hc hd (by omega), dW ha ha (by omega), dW hb hb (by omega)]
 have x1 := dZ ha hb
 have x2 := dZ hc hc
 have x3 := dZ hd hd
 have x4 := dZ hc hd
 have x5 := dZ ha ha
 have x6 := dZ hb hb
 generalize dot a1 a2 a3 b1 b2 b3 = p1 at *
 generalize dot c1 c2 c3 c1 c2 c3 = p2 at *
 generalize dot d1 d2 d3 d1 d2 d3 = p3 at *
 generalize dot c1 c2 c3 d1 d2 d3 = p4 at *
 generalize dot a1 a2 a3 a1 a2 a3 = p5 at *
 generalize dot b1 b2 b3 b1 b2 b3 = p6 at *
 have key : ∀ (p q r P Q : Int), (-P ≤ p ∧ p ≤ P) → (-Q ≤ q ∧ q ≤ Q) → (-Q ≤ r ∧ r ≤ Q) → P * P ≤ 9223372036854775807 → P ≤ 9223372036854775807 → Q * Q ≤ 9223372036854775807 → (P * P) * (Q * Q) ≤ 9223372036854775807 →
   wrap64 (jz p * wrap64 (q * r)) = ssq p * (q * r) := by
  intro p q r P Q h1 h2 h3 k1 k2 k3 k4
  have m1 := bq h1 h1
  have m2 := bq h2 h3
  have e : jz p = ssq p := by
   unfold jz ssq
   split
   ·rw [ap (n := -p) (by omega) (by omega)]
    have : -p * p = -(p * p) := by grind
    rw [ap (by omega) (by omega)]
   ·rw [ap (by omega) (by omega)]
  have b : -(P * P) ≤ ssq p ∧ ssq p ≤ P * P := by
   unfold ssq
   have : -p * p = -(p * p) := by grind
   split <;> omega
  have m3 := bq b m2
  rw [e, ap (n := q * r) (by omega) (by omega), ap (by omega) (by omega)]
 exact ⟨key p1 p2 p3 9720000 300 (by omega) (by omega) (by omega) (by omega) (by omega) (by omega) (by omega), key p4 p5 p6 300 9720000 (by omega) (by omega) (by omega) (by omega) (by omega) (by omega) (by omega)⟩
theorem an (w : World) (a : Obj) : Below w.heap.size w (w.alloc a) := (Below.refl _ _).alloc (Nat.le_refl _) _
theorem aH (w : World) (a b : Obj) : Below w.heap.size w ((w.alloc a).alloc b) := (an w a).alloc (by simp) _
theorem dQ (w : World) (a b c : Obj) : Below w.heap.size w (((w.alloc a).alloc b).alloc c) := (aH w a b).alloc (by simp; omega) _
theorem ak {w w1 w2 : World} (h : Below w.heap.size w w1) (h2 : Below w1.heap.size w1 w2) : Below w.heap.size w w2 := h.trans (h2.mono h.size)
theorem lL (x y z : Int) (w : World) :
  Calls Tryz.prog 168 #[.agg #[.int .i64 x, .int .i64 y, .int .i64 z]] w fun e w' => e = .returned (.agg #[.int .i64 x, .int .i64 y, .int .i64 z]) ∧ Below w.heap.size w w' := by
 go_enter Tryz.func168, Tryz.ntmps168
 go_wp2
 exact bodyPost_ret (v := .agg #[.int .i64 x, .int .i64 y, .int .i64 z]) (by simp [results, Tryz.results168, go_sem]) rfl ⟨rfl, aH _ _ _⟩
theorem iG (a1 a2 a3 b1 b2 b3 : Int) (w : World) :
  Calls Tryz.prog 196 #[.agg #[.int .i64 a1, .int .i64 a2, .int .i64 a3], .agg #[.int .i64 b1, .int .i64 b2, .int .i64 b3]] w fun e w' => e = .returned (.int .i64 (el a1 a2 a3 b1 b2 b3)) ∧ Below w.heap.size w w' := by
 go_enter Tryz.func196, Tryz.ntmps196
 go_wp2
 go_ret
 exact ⟨rfl, aH _ _ _⟩
end
section
open Go.RowKit Go.Extern.Stop Go.Stop Go.Extern
theorem tt (v : Value) (w : World) : (Extern.ReflectliteType.typeOf #[.iface 267 v]).run Tryz.prog w = .ok (.iface 217 (.agg #[.pointer (some ⟨7, 267, none⟩)])) w := by kernel_rfl
theorem mm (w : World) : (callFunc 238 #[.agg #[.pointer (some ⟨7, 267, none⟩)]]).run Tryz.prog w = .ok (Next.value (.bool true)) w :=
 (@run_callFunc_extern Tryz.prog 238 _ (Extern.ReflectliteType.method fun t => do Extern.Rtype.noPackHeld "Comparable" t; pure (.bool (← typeInfo t).comparable)) Tryz.func238 (by kernel_rfl) (by kernel_rfl) (by kernel_rfl) (by kernel_rfl) _ w).trans (by kernel_rfl)
theorem gJ (v : Value) (w : World) : (Go.method 402 217 v "Comparable").run Tryz.prog w = .ok (238, v) w := by kernel_rfl
theorem vO : (Tryz.prog.info? 267).map (·.comparable) = some true := by kernel_rfl
theorem vV : (Tryz.prog.info? 291).map (·.size) = some 1 := by kernel_rfl
theorem wk (v : Value) (xT : TypeId) (w : World) : (Instr.typeAssert (.iface 204 v) xT 219 true).run Tryz.prog w = .ok (.tuple #[.nilIface, .bool false]) w := run_typeAssert_lacksB Tryz.underlying219 (by kernel_rfl) (by kernel_rfl) v xT w
theorem oM (v : Value) (xT : TypeId) (w : World) : (Instr.typeAssert (.iface 204 v) xT 222 true).run Tryz.prog w = .ok (.tuple #[.iface 204 v, .bool true]) w := run_typeAssert_hasB Tryz.underlying222 (by kernel_rfl) v xT w
theorem mG (v : Value) (w : World) : (Go.method 402 204 v "Unwrap").run Tryz.prog w = .ok (234, v) w := by kernel_rfl
def aW (b : Addr) (w : World) : Prop := w.cell? ⟨1, 0, none⟩ = some (.iface 267 (.pointer (some b)))
theorem aW.lt {b : Addr} {w : World} (h : aW b w) : 1 < w.heap.size := World.block_lt_of_cell? w _ h
theorem aW.kept {b : Addr} {w w' : World} (h : aW b w) (hB : Below w.heap.size w w') : aW b w' := by
 unfold aW
 rw [hB.cell (p := ⟨1, 0, none⟩) h.lt]
 exact h
theorem vQ (b : Addr) (w : World) :
  Calls Tryz.prog 123 #[.nilIface, .iface 267 (.pointer (some b))] w fun e w' => e = .returned (.bool false) ∧ w' = w := by
 have hn := run_eql_iface_nil_left (P := Tryz.prog) w 267 (.pointer (some b)) Tryz.underlying162
 go_enter Tryz.func123, Tryz.ntmps123
 go_wp2
 go_ret
 exact ⟨rfl, rfl⟩
theorem pf (why : ByteArray) (b : Addr) (w : World) (h : aW b w) :
  Calls Tryz.prog 234 #[.agg #[.string why]] w fun e w' => e = .returned (.iface 267 (.pointer (some b))) ∧ Below w.heap.size w w' := by
 have h' : aW b (w.alloc (.cells #[.string why] 204)) := h.kept (an _ _)
 unfold aW at h'
 go_enter Tryz.func234, Tryz.ntmps234
 go_wp2
 go_ret
 exact ⟨rfl, an _ _⟩
theorem tE (why : ByteArray) (b : Addr) (w : World) (h : aW b w) :
  Calls Tryz.prog 123 #[.iface 204 (.agg #[.string why]), .iface 267 (.pointer (some b))] w fun e w' => e = .returned (.bool true) ∧ Below w.heap.size w w' := by
 obtain ⟨i, hi, hcmp⟩ := Option.map_eq_some_iff.1 vO
 obtain ⟨j, hj, hjs⟩ := Option.map_eq_some_iff.1 vV
 have h8 := @run_callFunc_extern Tryz.prog 156 _ Extern.ReflectliteType.typeOf Tryz.func156 (by kernel_rfl) (by kernel_rfl) (by kernel_rfl) (by kernel_rfl)
 have tT := tt
 have cT := mm
 have mR := gJ
 have nW := wk
 have uW := oM
 have mU := mG
 have heq := fun w => run_eql_iface_ptr_same (P := Tryz.prog) w b Tryz.underlying162 Tryz.underlying267 hi hcmp hj
 have hty := fun w => run_eql_iface_types (P := Tryz.prog) 204 267 (.agg #[.string why]) (.pointer (some b)) Tryz.underlying162 (by decide) w
 have HE := yz h
 clear h
 go_enter Tryz.func123, Tryz.ntmps123
 go_wp2
 refine wp_loop_rounds 2 ?_
 rw [rounds_succ]
 go_wp2_with (go_at_call 234; refine (pf why b _ (yy HE)).mono ?_; rintro e w1 ⟨rfl, hx⟩)
 rw [rounds_succ]
 go_wp2
 go_ret
 exact ⟨rfl, hx⟩
end
section
open Go.RowKit
abbrev St := Int × Int × Int × Int
def stC (s : St) : List Value := [.int .i64 s.1, .int .i64 s.2.1, .int .i64 s.2.2.1, .int .i64 s.2.2.2]
def stA (L : List St) (i : Nat) : St := L.getD i (0, 0, 0, 0)
def idB (n : Int) : Bool := decide (1 ≤ n) && decide (n ≤ 9999)
def upB (L : List St) (i : Nat) : Bool := decide (i = 0) || decide ((stA L (i - 1)).1 < (stA L i).1)
def eqI (a1 a2 a3 b1 b2 b3 : Int) : Bool := decide (a1 = b1 ∧ a2 = b2 ∧ a3 = b3)
def fV (x y z : Int) : Bool := eqI x y z (prI (aw x y z) (gI x y z) x) (prI (aw x y z) (gI x y z) y) (prI (aw x y z) (gI x y z) z)
def nB (p q : St) : Bool := gU p.2.1 p.2.2.1 p.2.2.2 q.2.1 q.2.2.1 q.2.2.2
def mO (L : List St) (s : St) (k : Nat) : Prop := ∀ j, j < k → nB s (stA L j) = false
def dt (L : List St) (s : St) (n : Nat) : Bool := (List.range n).any fun j => nB s (stA L j)
def fl (L : List St) (i : Nat) : Bool :=
 idB (stA L i).1 && upB L i && (ba (stA L i).2.1 (stA L i).2.2.1 (stA L i).2.2.2 && fV (stA L i).2.1 (stA L i).2.2.1 (stA L i).2.2.2) && !dt L (stA L i) i
def oa (L : List St) (k : Nat) : Prop := ∀ j, j < k → fl L j = true
def be (L : List St) : Bool := decide (L.length ≤ 12) && (List.range L.length).all (fl L)
theorem sP {L : List St} {s : St} {n : Nat} (h : mO L s n) : dt L s n = false := by
 unfold dt
 rw [List.any_eq_false]
 intro j hj
 rw [h j (List.mem_range.1 hj)]
 simp
theorem rS {L : List St} {s : St} {n j : Nat} (hj : j < n) (h : nB s (stA L j) = true) : dt L s n = true := by
 unfold dt
 rw [List.any_eq_true]
 exact ⟨j, List.mem_range.2 hj, h⟩
theorem qD {L : List St} {s : St} {k : Nat} (h : mO L s k) (h1 : nB s (stA L k) = false) : mO L s (k + 1) := by
 intro j hj
 by_cases e : j = k
 ·rw [e]; exact h1
 ·exact h j (by omega)
theorem ve {L : List St} {k : Nat} (h : oa L k) (h1 : fl L k = true) : oa L (k + 1) := by
 intro j hj
 by_cases e : j = k
 ·rw [e]; exact h1
 ·exact h j (by omega)
theorem ut {L : List St} (hl : L.length ≤ 12) (h : oa L L.length) : be L = true := by
 unfold be
 rw [Bool.and_eq_true, List.all_eq_true]
 exact ⟨by simpa using hl, fun j hj => h j (List.mem_range.1 hj)⟩
theorem dg {L : List St} (h : be L = true) : L.length ≤ 12 ∧ oa L L.length := by
 unfold be at h
 rw [Bool.and_eq_true, List.all_eq_true] at h
 exact ⟨by simpa using h.1, fun j hj => h.2 j (List.mem_range.2 hj)⟩
theorem gW {L : List St} {i : Nat} (h : fl L i = true) : ba (stA L i).2.1 (stA L i).2.2.1 (stA L i).2.2.2 = true := by
 unfold fl at h
 simp only [Bool.and_eq_true] at h
 exact h.1.2.1
theorem lZ {x y z : Int} (h : ba x y z = true) : aw x y z = true ∧ aJ 10 x y z = true := by simpa [ba] using h
theorem ia {m x : Int} (h : ¬ (-m ≤ x ∧ x ≤ m)) : inB m x = false := by simpa [inB] using h
theorem gF (m x y z : Int) (w : World) (hm0 : 0 ≤ m) (hm : m ≤ 1000000) :
  Calls Tryz.prog 178 #[.agg #[.int .i64 x, .int .i64 y, .int .i64 z], .int .i64 m] w fun e w' => e = .returned (.bool (aJ m x y z)) ∧ Below w.heap.size w w' := by
 have i0 : ∀ w : World, (Instr.index 213 (.agg #[.int .i64 x, .int .i64 y, .int .i64 z]) (.int .i64 0)).run Tryz.prog w = .ok (.int .i64 x) w := fun _ => by kernel_rfl
 have i1 : ∀ w : World, (Instr.index 213 (.agg #[.int .i64 x, .int .i64 y, .int .i64 z]) (.int .i64 1)).run Tryz.prog w = .ok (.int .i64 y) w := fun _ => by kernel_rfl
 have i2 : ∀ w : World, (Instr.index 213 (.agg #[.int .i64 x, .int .i64 y, .int .i64 z]) (.int .i64 2)).run Tryz.prog w = .ok (.int .i64 z) w := fun _ => by kernel_rfl
 have hwr : wrap64 (-m) = -m := ap (by omega) (by omega)
 go_enter Tryz.func178, Tryz.ntmps178
 go_wp2_with fail
 refine (lL x y z _).mono ?_
 rintro e w1 ⟨rfl, hB1⟩
 have hB : Below w.heap.size w w1 := ak (an _ _) hB1
 clear hB1
 go_wp2_with fail
 go_loop [9] (fun i => ∃ k : Nat, k ≤ 3 ∧ i = .int .i64 k ∧ Hid (0 < k → inB m x = true) ∧ Hid (1 < k → inB m y = true) ∧ Hid (2 < k → inB m z = true)) (fun i => 3 - (intOf i).toNat)
 case atStart => exact ⟨0, Nat.zero_le _, rfl, yz (by omega), yz (by omega), yz (by omega)⟩
 case round =>
  obtain ⟨k, hk, rfl, hx, hy, hz⟩ := hrel
  have hk4 : k = 0 ∨ k = 1 ∨ k = 2 ∨ k = 3 := by omega
  rcases hk4 with rfl | rfl | rfl | rfl
  ·by_cases q1 : -m ≤ x
   ·by_cases q2 : x ≤ m
    ·have HI := yz (dY.2 ⟨q1, q2⟩)
     go_wp2
     go_round
     case rel => exact ⟨1, by omega, rfl, yz (fun _ => yy HI), yz (by omega), yz (by omega)⟩
     case measure => simp [intOf]
    ·have HO := yz (ia (m := m) (x := x) (fun h => q2 h.2))
     go_wp2
     go_ret
     exact ⟨by simp [aJ, yy HO], hB⟩
   ·have HO := yz (ia (m := m) (x := x) (fun h => q1 h.1))
    go_wp2
    go_ret
    exact ⟨by simp [aJ, yy HO], hB⟩
  ·by_cases q1 : -m ≤ y
   ·by_cases q2 : y ≤ m
    ·have HI := yz (dY.2 ⟨q1, q2⟩)
     go_wp2
     go_round
     case rel => exact ⟨2, by omega, rfl, yz (fun _ => yy hx (by omega)), yz (fun _ => yy HI), yz (by omega)⟩
     case measure => simp [intOf]
    ·have HO := yz (ia (m := m) (x := y) (fun h => q2 h.2))
     go_wp2
     go_ret
     exact ⟨by simp [aJ, yy HO], hB⟩
   ·have HO := yz (ia (m := m) (x := y) (fun h => q1 h.1))
    go_wp2
    go_ret
    exact ⟨by simp [aJ, yy HO], hB⟩
  ·by_cases q1 : -m ≤ z
   ·by_cases q2 : z ≤ m
    ·have HI := yz (dY.2 ⟨q1, q2⟩)
     go_wp2
     go_round
     case rel => exact ⟨3, by omega, rfl, yz (fun _ => yy hx (by omega)), yz (fun _ => yy hy (by omega)), yz (fun _ => yy HI)⟩
     case measure => simp [intOf]
    ·have HO := yz (ia (m := m) (x := z) (fun h => q2 h.2))
     go_wp2
     go_ret
     exact ⟨by simp [aJ, yy HO], hB⟩
   ·have HO := yz (ia (m := m) (x := z) (fun h => q1 h.1))
    go_wp2
    go_ret
    exact ⟨by simp [aJ, yy HO], hB⟩
  ·go_wp2
   go_ret
   exact ⟨by simp [aJ, yy hx (by omega), yy hy (by omega), yy hz (by omega)], hB⟩
def eqB (a1 a2 a3 b1 b2 b3 : Int) : Bool := decide (a1 = b1 ∧ a2 = b2 ∧ a3 = b3)
theorem md (a1 a2 a3 b1 b2 b3 : Int) (w : World) : (Op.equalIn 10000 72 (.agg #[.int .i64 a1, .int .i64 a2, .int .i64 a3]) (.agg #[.int .i64 b1, .int .i64 b2, .int .i64 b3])).run Tryz.prog w = .ok (eqB a1 a2 a3 b1 b2 b3) w := by
 have h := run_equalIn_struct (P := Tryz.prog) w 9999 72 #[.int .i64 a1, .int .i64 a2, .int .i64 a3] #[.int .i64 b1, .int .i64 b2, .int .i64 b3] (by kernel_rfl) (by kernel_rfl)
 have hf : (Tryz.prog.fieldsOf 72).toList = (Tryz.prog.fieldsOf 72).toList := rfl
 refine h.trans ?_
 by_cases h1 : a1 = b1
 ·by_cases h2 : a2 = b2
  ·by_cases h3 : a3 = b3
   ·simp [go_sem, eqB, h1, h2, h3]
   ·simp [go_sem, eqB, h1, h2, h3]
  ·simp [go_sem, eqB, h1, h2]
 ·simp [go_sem, eqB, h1]
theorem mX (a1 a2 a3 b1 b2 b3 : Int) (w : World) : (binOp .neq 72 (.agg #[.int .i64 a1, .int .i64 a2, .int .i64 a3]) (.agg #[.int .i64 b1, .int .i64 b2, .int .i64 b3])).run Tryz.prog w = .ok (.bool (!eqB a1 a2 a3 b1 b2 b3)) w := by
 rw [run_neq_struct, md]; rfl
theorem qr (a1 a2 a3 b1 b2 b3 : Int) (w : World) : (binOp .eql 72 (.agg #[.int .i64 a1, .int .i64 a2, .int .i64 a3]) (.agg #[.int .i64 b1, .int .i64 b2, .int .i64 b3])).run Tryz.prog w = .ok (.bool (eqB a1 a2 a3 b1 b2 b3)) w := by
 rw [run_eql_struct, md]; rfl
theorem bh (x y z : Int) (w : World) :
  Calls Tryz.prog 167 #[.agg #[.int .i64 x, .int .i64 y, .int .i64 z]] w fun e w' => e = .returned (.bool (aw x y z)) ∧ Below w.heap.size w w' := by
 have hn := fun w => mX x y z 0 0 0 w
 cases hz : eqB x y z 0 0 0
 ·rw [hz] at hn
  have HR : Hid (aw x y z = aJ 1000000 x y z) := yz (by unfold aw; rw [show lG x y z = false from hz]; simp)
  go_enter Tryz.func167, Tryz.ntmps167
  go_wp2_with fail
  refine (gF 1000000 x y z _ (by omega) (by omega)).mono ?_
  rintro e w1 ⟨rfl, hB1⟩
  have hB : Below w.heap.size w w1 := ak (an _ _) hB1
  clear hB1
  go_wp2_with fail
  go_ret
  exact ⟨by rw [yy HR]; rfl, hB⟩
 ·rw [hz] at hn
  have HR : Hid (aw x y z = false) := yz (by unfold aw; rw [show lG x y z = true from hz]; simp)
  go_enter Tryz.func167, Tryz.ntmps167
  go_wp2_with fail
  go_ret
  exact ⟨by rw [yy HR]; rfl, an _ _⟩
def aF (w : World) (b : Nat) (x y z : Int) : Prop := w.cell? ⟨b, 0, none⟩ = some (.int .i64 x) ∧ w.cell? ⟨b, 1, none⟩ = some (.int .i64 y) ∧ w.cell? ⟨b, 2, none⟩ = some (.int .i64 z)
def dR (w : World) (b : Nat) : Prop := w.frozen? ⟨b, 0, none⟩ = false ∧ w.frozen? ⟨b, 1, none⟩ = false ∧ w.frozen? ⟨b, 2, none⟩ = false
theorem aF.kept {w w' : World} {b : Nat} {x y z : Int} (h : aF w b x y z) (hb : b < w.heap.size) (hB : Below w.heap.size w w') : aF w' b x y z := by
 obtain ⟨h0, h1, h2⟩ := h
 exact ⟨by rw [hB.cell (p := ⟨b, 0, none⟩) hb]; exact h0, by rw [hB.cell (p := ⟨b, 1, none⟩) hb]; exact h1, by rw [hB.cell (p := ⟨b, 2, none⟩) hb]; exact h2⟩
theorem dR.kept {w w' : World} {b : Nat} (h : dR w b) (hb : b < w.heap.size) (hB : Below w.heap.size w w') : dR w' b := by
 obtain ⟨h0, h1, h2⟩ := h
 exact ⟨by rw [hB.frozen (p := ⟨b, 0, none⟩) hb]; exact h0, by rw [hB.frozen (p := ⟨b, 1, none⟩) hb]; exact h1, by rw [hB.frozen (p := ⟨b, 2, none⟩) hb]; exact h2⟩
theorem aD (w : World) (x y z : Int) (t : TypeId) : aF (w.alloc (.cells #[.int .i64 x, .int .i64 y, .int .i64 z] t)) w.heap.size x y z := by
 refine ⟨?_, ?_, ?_⟩ <;> simp
theorem fu (w : World) (x y z : Int) (t : TypeId) : dR (w.alloc (.cells #[.int .i64 x, .int .i64 y, .int .i64 z] t)) w.heap.size := by
 refine ⟨?_, ?_, ?_⟩ <;> simp
theorem aF.alloc {w : World} {b : Nat} {x y z : Int} (h : aF w b x y z) (hb : b < w.heap.size) (o : Obj) : aF (w.alloc o) b x y z := h.kept hb (an _ _)
theorem bl {w w1 : World} {b : Nat} (h : Below w.heap.size w w1) (hb : w.heap.size ≤ b) (x y z : Value) : Below w.heap.size w (((w1.setCell ⟨b, 0, none⟩ x).setCell ⟨b, 1, none⟩ y).setCell ⟨b, 2, none⟩ z) := ((h.setCell hb _).setCell hb _).setCell hb _
theorem vz (w : World) (a b c d : Obj) : Below w.heap.size w ((((w.alloc a).alloc b).alloc c).alloc d) := (dQ w a b c).alloc (by simp; omega) _
theorem mD (a1 a2 a3 b1 b2 b3 : Int) (w : World) :
  Calls Tryz.prog 193 #[.agg #[.int .i64 a1, .int .i64 a2, .int .i64 a3], .agg #[.int .i64 b1, .int .i64 b2, .int .i64 b3]] w fun e w' => e = .returned (.int .i64 (mF a1 a2 a3 b1 b2 b3)) ∧ Below w.heap.size w w' := by
 go_enter Tryz.func193, Tryz.ntmps193
 go_wp2_with fail
 refine (bh a1 a2 a3 _).mono ?_
 rintro e w1 ⟨rfl, hB1⟩
 have hB : Below w.heap.size w w1 := ak (aH _ _ _) hB1
 have hs : w.heap.size + 2 ≤ w1.heap.size := by have := hB1.size; simpa [Nat.add_assoc] using this
 have va : aF w1 w.heap.size a1 a2 a3 := ((by simpa using aD w a1 a2 a3 _ : aF _ w.heap.size a1 a2 a3).alloc (by simp) _).kept (by simp; omega) hB1
 have vb : aF w1 (w.heap.size + 1) b1 b2 b3 := (by simpa using aD (w.alloc _) b1 b2 b3 _ : aF _ (w.heap.size + 1) b1 b2 b3).kept (by simp) hB1
 clear hB1
 have hva := va
 obtain ⟨ca0, ca1, ca2⟩ := va
 have hvb := vb
 obtain ⟨cb0, cb1, cb2⟩ := vb
 cases ha : aw a1 a2 a3
 ·go_wp2_with fail
  go_ret
  exact ⟨by simp [mF, ha], hB⟩
 ·go_wp2_with fail
  refine (bh b1 b2 b3 _).mono ?_
  rintro e w2 ⟨rfl, hB2⟩
  have va := hva.kept (by omega) hB2
  have vb := hvb.kept (by omega) hB2
  replace hs : w.heap.size + 2 ≤ w2.heap.size := by have := hB2.size; omega
  replace hB : Below w.heap.size w w2 := ak hB hB2
  clear hva ca0 ca1 ca2 hvb cb0 cb1 cb2
  clear hB2
  have hva := va
  obtain ⟨ca0, ca1, ca2⟩ := va
  have hvb := vb
  obtain ⟨cb0, cb1, cb2⟩ := vb
  cases hb : aw b1 b2 b3
  ·go_wp2_with fail
   go_ret
   exact ⟨by simp [mF, hb], hB⟩
  ·go_wp2_with fail
   refine (iG a1 a2 a3 b1 b2 b3 _).mono ?_
   rintro e w3 ⟨rfl, hB3⟩
   go_wp2_with fail
   go_ret
   exact ⟨by simp [mF, ha, hb], ak hB hB3⟩
theorem lM (a1 a2 a3 b1 b2 b3 : Int) (w : World) :
  Calls Tryz.prog 192 #[.agg #[.int .i64 a1, .int .i64 a2, .int .i64 a3], .agg #[.int .i64 b1, .int .i64 b2, .int .i64 b3]] w fun e w' => e = .returned (.agg #[.int .i64 (crI (aw a1 a2 a3 && aw b1 b2 b3) a2 a3 b2 b3), .int .i64 (crI (aw a1 a2 a3 && aw b1 b2 b3) a3 a1 b3 b1), .int .i64 (crI (aw a1 a2 a3 && aw b1 b2 b3) a1 a2 b1 b2)]) ∧ Below w.heap.size w w' := by
 go_enter Tryz.func192, Tryz.ntmps192
 go_wp2_with fail
 refine (bh a1 a2 a3 _).mono ?_
 rintro e w1 ⟨rfl, hB1⟩
 have hB : Below w.heap.size w w1 := ak (dQ _ _ _ _) hB1
 have hs : w.heap.size + 3 ≤ w1.heap.size := by have := hB1.size; simpa [Nat.add_assoc] using this
 have va : aF w1 w.heap.size a1 a2 a3 := (((by simpa using aD w a1 a2 a3 _ : aF _ w.heap.size a1 a2 a3).alloc (by simp) _).alloc (by simp; omega) _).kept (by simp; omega) hB1
 have vb : aF w1 (w.heap.size + 1) b1 b2 b3 := ((by simpa using aD (w.alloc _) b1 b2 b3 _ : aF _ (w.heap.size + 1) b1 b2 b3).alloc (by simp) _).kept (by simp) hB1
 have vr : aF w1 (w.heap.size + 1 + 1) 0 0 0 := (by simpa using aD ((w.alloc _).alloc _) 0 0 0 _ : aF _ (w.heap.size + 1 + 1) 0 0 0).kept (by simp) hB1
 have fr : dR w1 (w.heap.size + 1 + 1) := (by simpa using fu ((w.alloc _).alloc _) 0 0 0 _ : dR _ (w.heap.size + 1 + 1)).kept (by simp) hB1
 clear hB1
 have hva := va
 obtain ⟨ca0, ca1, ca2⟩ := va
 have hvb := vb
 obtain ⟨cb0, cb1, cb2⟩ := vb
 have hvr := vr
 have hfr := fr
 obtain ⟨cr0, cr1, cr2⟩ := vr
 obtain ⟨fr0, fr1, fr2⟩ := fr
 cases ha : aw a1 a2 a3
 ·go_wp2_with fail
  exact bodyPost_ret (v := .agg #[.int .i64 0, .int .i64 0, .int .i64 0]) (by simp [results, Tryz.results192, go_sem, cr0, cr1, cr2]) rfl ⟨by simp [crI, ha], bl hB (by omega) _ _ _⟩
 ·go_wp2_with fail
  refine (bh b1 b2 b3 _).mono ?_
  rintro e w2 ⟨rfl, hB2⟩
  have va := hva.kept (by omega) hB2
  have vb := hvb.kept (by omega) hB2
  have vr := hvr.kept (by omega) hB2
  have fr := hfr.kept (by omega) hB2
  replace hs : w.heap.size + 3 ≤ w2.heap.size := by have := hB2.size; omega
  replace hB : Below w.heap.size w w2 := ak hB hB2
  clear hva ca0 ca1 ca2 hvb cb0 cb1 cb2 hvr hfr cr0 cr1 cr2 fr0 fr1 fr2
  clear hB2
  have hva := va
  obtain ⟨ca0, ca1, ca2⟩ := va
  have hvb := vb
  obtain ⟨cb0, cb1, cb2⟩ := vb
  have hvr := vr
  have hfr := fr
  obtain ⟨cr0, cr1, cr2⟩ := vr
  obtain ⟨fr0, fr1, fr2⟩ := fr
  cases hb : aw b1 b2 b3
  ·go_wp2_with fail
   exact bodyPost_ret (v := .agg #[.int .i64 0, .int .i64 0, .int .i64 0]) (by simp [results, Tryz.results192, go_sem, cr0, cr1, cr2]) rfl ⟨by simp [crI, hb], bl hB (by omega) _ _ _⟩
  ·go_wp2_with fail
   exact bodyPost_ret (v := .agg #[.int .i64 (crW a2 a3 b2 b3), .int .i64 (crW a3 a1 b3 b1), .int .i64 (crW a1 a2 b1 b2)]) (by simp [results, Tryz.results192, go_sem, cr0, cr1, cr2, crW]) rfl ⟨by simp [crI, ha, hb], bl hB (by omega) _ _ _⟩
theorem sH {a b : Int} (h : b ≠ 0) (hb : -1000000 ≤ b ∧ b ≤ 1000000) : wrap64 (a.tmod b) = a.tmod b ∧ -1000000 ≤ a.tmod b ∧ a.tmod b ≤ 1000000 := by
 have := pW a b h
 have h2 : -1000000 ≤ a.tmod b ∧ a.tmod b ≤ 1000000 := by omega
 exact ⟨ap (by omega) (by omega), h2⟩
theorem bC (w : World) (n : Nat) : Below w.heap.size w (w.drewN n) := ⟨rfl, rfl, rfl, Nat.le_refl _, fun _ _ => rfl⟩
theorem ck (a b : Int) (w : World) (ha : -1000000 ≤ a ∧ a ≤ 1000000) (hb : -1000000 ≤ b ∧ b ≤ 1000000) :
  Calls Tryz.prog 159 #[.int .i64 a, .int .i64 b] w fun e w' => e = .returned (.int .i64 ((Int.gcd a b : Nat) : Int)) ∧ ∃ n, w' = w.drewN n := by
 go_enter Tryz.func159, Tryz.ntmps159
 go_wp2
 go_loopw [0, 1] (fun u v wr => ∃ p q : Int, u = .int .i64 p ∧ v = .int .i64 q ∧ Hid (-1000000 ≤ p ∧ p ≤ 1000000) ∧ Hid (-1000000 ≤ q ∧ q ≤ 1000000) ∧ Hid (Int.gcd p q = Int.gcd a b) ∧ ∃ n, wr = w.drewN n) (fun _ v _ => (intOf v).natAbs)
 case atStart => exact ⟨a, b, rfl, rfl, yz ha, yz hb, yz rfl, 0, rfl⟩
 case round =>
  obtain ⟨p, q, rfl, rfl, hp, hq, hg, nd, rfl⟩ := hrel
  by_cases h0 : q = 0
  ·subst h0
   have HG := yz (sX p)
   by_cases hn : p < 0
   ·have HW : Hid (wrap64 (-p) = -p) := yz (by have := yy hp; exact ap (by omega) (by omega))
    have HR := yz (show ((Int.gcd a b : Nat) : Int) = -p by rw [← yy hg, yy HG, if_pos hn])
    go_wp2
    go_ret
    exact ⟨by rw [yy HR]; exact congrArg (fun x => Ending.returned (Value.int .i64 x)) (yy HW), nd, rfl⟩
   ·have HR := yz (show ((Int.gcd a b : Nat) : Int) = p by rw [← yy hg, yy HG, if_neg hn])
    go_wp2
    go_ret
    exact ⟨by rw [yy HR]; rfl, nd, rfl⟩
  ·have hz : (q == 0) = false := by simp [h0]
   have hr := sH (a := p) h0 (yy hq)
   have HL := yz (pW p q h0)
   have HS := yz (sB p q)
   obtain ⟨r, hre⟩ : ∃ r, p.tmod q = r := ⟨_, rfl⟩
   have hrw := hr.1
   have HRB := yz hr.2
   rw [hre] at hrw HRB HL HS
   clear hr
   go_wp2
   go_region
   go_wp2
   go_roundw
   case rel => exact ⟨q, r, rfl, rfl, hq, HRB, yz ((yy HS).trans (yy hg)), nd + 1, rfl⟩
   case measure => simp [intOf]; exact yy HL
def gS (x y z : Int) : Nat → Int
 | 0 => 0
 | 1 => ((Int.gcd 0 x : Nat) : Int)
 | 2 => ((Int.gcd ((Int.gcd 0 x : Nat) : Int) y : Nat) : Int)
 | _ => ((Int.gcd ((Int.gcd ((Int.gcd 0 x : Nat) : Int) y : Nat) : Int) z : Nat) : Int)
theorem sS {x y z : Int} (k : Nat) (h : (-1000000 ≤ x ∧ x ≤ 1000000) ∧ (-1000000 ≤ y ∧ y ≤ 1000000) ∧ (-1000000 ≤ z ∧ z ≤ 1000000)) : -1000000 ≤ gS x y z k ∧ gS x y z k ≤ 1000000 := by
 have h1 := mq (a := 0) (m := 1000000) (by omega) h.1
 have h2 := mq (m := 1000000) (a := ((Int.gcd 0 x : Nat) : Int)) (by omega) h.2.1
 have h3 := mq (m := 1000000) (a := ((Int.gcd ((Int.gcd 0 x : Nat) : Int) y : Nat) : Int)) (by omega) h.2.2
 match k with
 | 0 => exact ⟨by show (-1000000 : Int) ≤ 0; omega, by show (0 : Int) ≤ 1000000; omega⟩
 | 1 => exact ⟨by show (-1000000 : Int) ≤ ((Int.gcd 0 x : Nat) : Int); omega, h1.2⟩
 | 2 => exact ⟨by show (-1000000 : Int) ≤ ((Int.gcd ((Int.gcd 0 x : Nat) : Int) y : Nat) : Int); omega, h2.2⟩
 | k + 3 => exact ⟨by show (-1000000 : Int) ≤ ((Int.gcd ((Int.gcd ((Int.gcd 0 x : Nat) : Int) y : Nat) : Int) z : Nat) : Int); omega, h3.2⟩
theorem iK (a1 a2 a3 : Int) (w : World) :
  Calls Tryz.prog 147 #[.agg #[.int .i64 a1, .int .i64 a2, .int .i64 a3]] w fun e w' => e = .returned (.agg #[.int .i64 (prI (aw a1 a2 a3) (gI a1 a2 a3) a1), .int .i64 (prI (aw a1 a2 a3) (gI a1 a2 a3) a2), .int .i64 (prI (aw a1 a2 a3) (gI a1 a2 a3) a3)]) ∧ Below w.heap.size w w' := by
 go_enter Tryz.func147, Tryz.ntmps147
 go_wp2_with fail
 refine (bh a1 a2 a3 _).mono ?_
 rintro e w1 ⟨rfl, hB1⟩
 have hB : Below w.heap.size w w1 := ak (aH _ _ _) hB1
 have hs : w.heap.size + 2 ≤ w1.heap.size := by have := hB1.size; simpa [Nat.add_assoc] using this
 have va : aF w1 w.heap.size a1 a2 a3 := ((by simpa using aD w a1 a2 a3 _ : aF _ w.heap.size a1 a2 a3).alloc (by simp) _).kept (by simp; omega) hB1
 have vr : aF w1 (w.heap.size + 1) 0 0 0 := (by simpa using aD (w.alloc _) 0 0 0 _ : aF _ (w.heap.size + 1) 0 0 0).kept (by simp) hB1
 have fr : dR w1 (w.heap.size + 1) := (by simpa using fu (w.alloc _) 0 0 0 _ : dR _ (w.heap.size + 1)).kept (by simp) hB1
 clear hB1
 have hva := va
 obtain ⟨ca0, ca1, ca2⟩ := va
 have hvr := vr
 have hfr := fr
 obtain ⟨cr0, cr1, cr2⟩ := vr
 obtain ⟨fr0, fr1, fr2⟩ := fr
 cases ha : aw a1 a2 a3
 ·go_wp2_with fail
  exact bodyPost_ret (v := .agg #[.int .i64 0, .int .i64 0, .int .i64 0]) (by simp [results, Tryz.results147, go_sem, cr0, cr1, cr2]) rfl ⟨by simp [prI, ha], bl hB (by omega) _ _ _⟩
 ·go_wp2_with fail
  refine (lL a1 a2 a3 _).mono ?_
  rintro e w2 ⟨rfl, hB2⟩
  have va := hva.kept (by omega) hB2
  have vr := hvr.kept (by omega) hB2
  have fr := hfr.kept (by omega) hB2
  replace hs : w.heap.size + 2 ≤ w2.heap.size := by have := hB2.size; omega
  replace hB : Below w.heap.size w w2 := ak hB hB2
  clear hB2 hva hvr hfr ca0 ca1 ca2 cr0 cr1 cr2 fr0 fr1 fr2
  have i0 : ∀ w : World, (Instr.index 213 (.agg #[.int .i64 a1, .int .i64 a2, .int .i64 a3]) (.int .i64 0)).run Tryz.prog w = .ok (.int .i64 a1) w := fun _ => by kernel_rfl
  have i1 : ∀ w : World, (Instr.index 213 (.agg #[.int .i64 a1, .int .i64 a2, .int .i64 a3]) (.int .i64 1)).run Tryz.prog w = .ok (.int .i64 a2) w := fun _ => by kernel_rfl
  have i2 : ∀ w : World, (Instr.index 213 (.agg #[.int .i64 a1, .int .i64 a2, .int .i64 a3]) (.int .i64 2)).run Tryz.prog w = .ok (.int .i64 a3) w := fun _ => by kernel_rfl
  have HR := yz (kp.1 ha).1
  have HP := yz (vG ha)
  go_wp2_with fail
  go_loopw [3, 12] (fun u i wr => ∃ (k n : Nat), k ≤ 3 ∧ i = .int .i64 k ∧ u = .int .i64 (gS a1 a2 a3 k) ∧ wr = w2.drewN n) (fun _ i _ => 3 - (intOf i).toNat)
  case atStart => exact ⟨0, 0, by omega, rfl, rfl, rfl⟩
  case round =>
   obtain ⟨k, n, hk, rfl, rfl, rfl⟩ := hrel
   have hk4 : k = 0 ∨ k = 1 ∨ k = 2 ∨ k = 3 := by omega
   rcases hk4 with rfl | rfl | rfl | rfl
   ·go_wp2_with fail
    refine (ck _ a1 _ (sS 0 (yy HR)) (yy HR).1).mono ?_
    rintro e w3 ⟨rfl, m, rfl⟩
    go_wp2_with fail
    go_roundw
    case rel => exact ⟨1, n + m, by omega, rfl, rfl, by simp⟩
    case measure => simp [intOf]
   ·go_wp2_with fail
    refine (ck _ a2 _ (sS 1 (yy HR)) (yy HR).2.1).mono ?_
    rintro e w3 ⟨rfl, m, rfl⟩
    go_wp2_with fail
    go_roundw
    case rel => exact ⟨2, n + m, by omega, rfl, rfl, by simp⟩
    case measure => simp [intOf]
   ·go_wp2_with fail
    refine (ck _ a3 _ (sS 2 (yy HR)) (yy HR).2.2).mono ?_
    rintro e w3 ⟨rfl, m, rfl⟩
    go_wp2_with fail
    go_roundw
    case rel => exact ⟨3, n + m, by omega, rfl, rfl, by simp⟩
    case measure => simp [intOf]
   ·have hgs : gS a1 a2 a3 3 = gI a1 a2 a3 := qI a1 a2 a3
    rw [hgs]
    clear hgs
    have hpos := yy HP
    have hz0 : (gI a1 a2 a3 == 0) = false := by simp; omega
    generalize hge : gI a1 a2 a3 = g at hpos hz0 ⊢
    have HG := yz hge
    clear hge i0 i1 i2
    have va' : aF (w2.drewN n) w.heap.size a1 a2 a3 := va
    have vr' : aF (w2.drewN n) (w.heap.size + 1) 0 0 0 := vr
    have fr' : dR (w2.drewN n) (w.heap.size + 1) := fr
    have hB' : Below w.heap.size w (w2.drewN n) := ak hB (bC _ _)
    clear va vr fr hB hs
    go_wp2_with fail
    generalize w2.drewN n = w3 at va' vr' fr' hB' ⊢
    obtain ⟨ca0, ca1, ca2⟩ := va'
    obtain ⟨cr0, cr1, cr2⟩ := vr'
    obtain ⟨fr0, fr1, fr2⟩ := fr'
    go_region
    go_wp2
    exact bodyPost_ret (v := .agg #[.int .i64 (wrap64 (a1.tdiv g)), .int .i64 (wrap64 (a2.tdiv g)), .int .i64 (wrap64 (a3.tdiv g))]) (by simp [results, Tryz.results147, go_sem, cr0, cr1, cr2]) rfl ⟨by rw [yy HG]; simp [prI, ha], (bl hB' (by omega) _ _ _).drew⟩
end
section
open Go.RowKit Go.Sort
theorem qp (a1 a2 a3 b1 b2 b3 c1 c2 c3 : Int) (w : World) :
  Calls Tryz.prog 208 #[.agg #[.int .i64 a1, .int .i64 a2, .int .i64 a3], .agg #[.int .i64 b1, .int .i64 b2, .int .i64 b3], .agg #[.int .i64 c1, .int .i64 c2, .int .i64 c3]] w fun e w' => e = .returned (.int .i64 (mZ a1 a2 a3 b1 b2 b3 c1 c2 c3)) ∧ Below w.heap.size w w' := by
 go_enter Tryz.func208, Tryz.ntmps208
 go_wp2_with fail
 refine (bh a1 a2 a3 _).mono ?_
 rintro e w1 ⟨rfl, hB1⟩
 have hB : Below w.heap.size w w1 := ak (dQ _ _ _ _) hB1
 have hs : w.heap.size + 3 ≤ w1.heap.size := by have := hB1.size; simpa [Nat.add_assoc] using this
 have va : aF w1 w.heap.size a1 a2 a3 := (((by simpa using aD w a1 a2 a3 _ : aF _ w.heap.size a1 a2 a3).alloc (by simp) _).alloc (by simp; omega) _).kept (by simp; omega) hB1
 have vb : aF w1 (w.heap.size + 1) b1 b2 b3 := ((by simpa using aD (w.alloc _) b1 b2 b3 _ : aF _ (w.heap.size + 1) b1 b2 b3).alloc (by simp) _).kept (by simp) hB1
 have vc : aF w1 (w.heap.size + 1 + 1) c1 c2 c3 := (by simpa using aD ((w.alloc _).alloc _) c1 c2 c3 _ : aF _ (w.heap.size + 1 + 1) c1 c2 c3).kept (by simp) hB1
 clear hB1
 have hva := va
 obtain ⟨ca0, ca1, ca2⟩ := va
 have hvb := vb
 obtain ⟨cb0, cb1, cb2⟩ := vb
 have hvc := vc
 obtain ⟨cc0, cc1, cc2⟩ := vc
 cases ha : aw a1 a2 a3
 ·go_wp2_with fail
  go_ret
  exact ⟨by simp [mZ, ha], hB⟩
 ·go_wp2_with fail
  refine (bh b1 b2 b3 _).mono ?_
  rintro e w2 ⟨rfl, hB2⟩
  have va := hva.kept (by omega) hB2
  have vb := hvb.kept (by omega) hB2
  have vc := hvc.kept (by omega) hB2
  replace hs : w.heap.size + 3 ≤ w2.heap.size := by have := hB2.size; omega
  replace hB : Below w.heap.size w w2 := ak hB hB2
  clear hva ca0 ca1 ca2 hvb cb0 cb1 cb2 hvc cc0 cc1 cc2
  clear hB2
  have hva := va
  obtain ⟨ca0, ca1, ca2⟩ := va
  have hvb := vb
  obtain ⟨cb0, cb1, cb2⟩ := vb
  have hvc := vc
  obtain ⟨cc0, cc1, cc2⟩ := vc
  cases hb : aw b1 b2 b3
  ·go_wp2_with fail
   go_ret
   exact ⟨by simp [mZ, hb], hB⟩
  ·go_wp2_with fail
   refine (bh c1 c2 c3 _).mono ?_
   rintro e w3 ⟨rfl, hB3⟩
   have va := hva.kept (by omega) hB3
   have vb := hvb.kept (by omega) hB3
   have vc := hvc.kept (by omega) hB3
   replace hs : w.heap.size + 3 ≤ w3.heap.size := by have := hB3.size; omega
   replace hB : Below w.heap.size w w3 := ak hB hB3
   clear hva ca0 ca1 ca2 hvb cb0 cb1 cb2 hvc cc0 cc1 cc2
   clear hB3
   have hva := va
   obtain ⟨ca0, ca1, ca2⟩ := va
   have hvb := vb
   obtain ⟨cb0, cb1, cb2⟩ := vb
   have hvc := vc
   obtain ⟨cc0, cc1, cc2⟩ := vc
   cases hc : aw c1 c2 c3
   ·go_wp2_with fail
    go_ret
    exact ⟨by simp [mZ, hc], hB⟩
   ·go_wp2_with fail
    clear hva hvb hvc
    have HD := yz (show mZ a1 a2 a3 b1 b2 b3 c1 c2 c3 = el (crW a2 a3 b2 b3) (crW a3 a1 b3 b1) (crW a1 a2 b1 b2) c1 c2 c3 by simp [mZ, ha, hb, hc])
    have ka0 := cell_regrown ca0
    have ka1 := cell_regrown ca1
    have ka2 := cell_regrown ca2
    have kb0 := cell_regrown cb0
    have kb1 := cell_regrown cb1
    have kb2 := cell_regrown cb2
    have kc0 := cell_regrown cc0
    have kc1 := cell_regrown cc1
    have kc2 := cell_regrown cc2
    refine wp_region_quiet_below (by kernel_rfl) (by kernel_rfl) ?_
    repeat (quiet_step (first | exact Calls.regrown_of (lM a1 a2 a3 b1 b2 b3 _) | exact Calls.regrown_of (iG _ _ _ c1 c2 c3 _)))
    refine wpQuiet_nil ?_
    intro _ hw'
    obtain ⟨⟨dq, osq⟩, hw''⟩ := hw'
    subst hw''
    clear ca0 ka0 ca1 ka1 ca2 ka2 cb0 kb0 cb1 kb1 cb2 kb2 cc0 kc0 cc1 kc1 cc2 kc2
    go_wp2
    go_ret
    exact ⟨by rw [yy HD]; simp [crI], ak hB (below_regrown w3 dq osq)⟩
theorem sC (a1 a2 a3 b1 b2 b3 : Int) : gU a1 a2 a3 b1 b2 b3 = (eqB (crI (aw a1 a2 a3 && aw b1 b2 b3) a2 a3 b2 b3) (crI (aw a1 a2 a3 && aw b1 b2 b3) a3 a1 b3 b1) (crI (aw a1 a2 a3 && aw b1 b2 b3) a1 a2 b1 b2) 0 0 0 && decide (0 < mF a1 a2 a3 b1 b2 b3)) := by
 unfold gU crI mF
 cases h : (aw a1 a2 a3 && aw b1 b2 b3)
 ·simp
 ·simp [eqB, lG]
theorem eH (a1 a2 a3 b1 b2 b3 : Int) (w : World) :
  Calls Tryz.prog 179 #[.agg #[.int .i64 a1, .int .i64 a2, .int .i64 a3], .agg #[.int .i64 b1, .int .i64 b2, .int .i64 b3]] w fun e w' => e = .returned (.bool (gU a1 a2 a3 b1 b2 b3)) ∧ Below w.heap.size w w' := by
 have HS := yz (sC a1 a2 a3 b1 b2 b3)
 go_enter Tryz.func179, Tryz.ntmps179
 go_wp2_with fail
 refine (lM a1 a2 a3 b1 b2 b3 _).mono ?_
 rintro e w1 ⟨rfl, hB1⟩
 have hB : Below w.heap.size w w1 := ak (aH _ _ _) hB1
 have va : aF w1 w.heap.size a1 a2 a3 := ((aD w a1 a2 a3 _).alloc (by simp) _).kept (by simp; omega) hB1
 have vb : aF w1 (w.heap.size + 1) b1 b2 b3 := (by simpa using aD (w.alloc _) b1 b2 b3 _ : aF _ (w.heap.size + 1) b1 b2 b3).kept (by simp) hB1
 clear hB1
 obtain ⟨ca0, ca1, ca2⟩ := va
 obtain ⟨cb0, cb1, cb2⟩ := vb
 generalize crI (aw a1 a2 a3 && aw b1 b2 b3) a2 a3 b2 b3 = x at HS ⊢
 generalize crI (aw a1 a2 a3 && aw b1 b2 b3) a3 a1 b3 b1 = y at HS ⊢
 generalize crI (aw a1 a2 a3 && aw b1 b2 b3) a1 a2 b1 b2 = z at HS ⊢
 have he := fun w => qr x y z 0 0 0 w
 cases hz : eqB x y z 0 0 0
 ·rw [hz] at he HS
  go_wp2_with fail
  go_ret
  exact ⟨by rw [yy HS]; rfl, hB⟩
 ·rw [hz] at he HS
  go_wp2_with fail
  refine (mD a1 a2 a3 b1 b2 b3 _).mono ?_
  rintro e w2 ⟨rfl, hB2⟩
  replace hB := ak hB hB2
  go_wp2_with fail
  go_ret
  exact ⟨by rw [yy HS, Bool.true_and]; rfl, hB⟩
theorem gA (x y z : Int) (w : World) :
  Calls Tryz.prog 183 #[.agg #[.int .i64 x, .int .i64 y, .int .i64 z]] w fun e w' => e = .returned (.int .i64 (el x y z x y z)) ∧ Below w.heap.size w w' := by
 go_enter Tryz.func183, Tryz.ntmps183
 go_wp2_with fail
 refine (iG x y z x y z _).mono ?_
 rintro e w1 ⟨rfl, hB1⟩
 have hB : Below w.heap.size w w1 := ak (an _ _) hB1
 go_wp2_with fail
 go_ret
 exact ⟨rfl, hB⟩
theorem ft (x y z : Int) (w : World) :
  Calls Tryz.prog 162 #[.agg #[.int .i64 x, .int .i64 y, .int .i64 z]] w fun e w' => e = .returned (.bool (cc x y z)) ∧ Below w.heap.size w w' := by
 go_enter Tryz.func162, Tryz.ntmps162
 go_wp2_with fail
 refine (bh x y z _).mono ?_
 rintro e w1 ⟨rfl, hB1⟩
 have hB : Below w.heap.size w w1 := ak (an _ _) hB1
 have va : aF w1 w.heap.size x y z := (aD w x y z _).kept (by simp) hB1
 clear hB1
 obtain ⟨ca0, ca1, ca2⟩ := va
 cases ha : aw x y z
 ·go_wp2_with fail
  go_ret
  exact ⟨by simp [cc, ha], hB⟩
 ·go_wp2_with fail
  refine (gF 1800 x y z _ (by omega) (by omega)).mono ?_
  rintro e w2 ⟨rfl, hB2⟩
  replace hB := ak hB hB2
  go_wp2_with fail
  go_ret
  exact ⟨by simp [cc, ha], hB⟩
theorem cx (x y z : Int) (w : World) :
  Calls Tryz.prog 172 #[.agg #[.int .i64 x, .int .i64 y, .int .i64 z]] w fun e w' => e = .returned (.bool (ba x y z)) ∧ Below w.heap.size w w' := by
 go_enter Tryz.func172, Tryz.ntmps172
 go_wp2_with fail
 refine (bh x y z _).mono ?_
 rintro e w1 ⟨rfl, hB1⟩
 have hB : Below w.heap.size w w1 := ak (an _ _) hB1
 have va : aF w1 w.heap.size x y z := (aD w x y z _).kept (by simp) hB1
 clear hB1
 obtain ⟨ca0, ca1, ca2⟩ := va
 cases ha : aw x y z
 ·go_wp2_with fail
  go_ret
  exact ⟨by simp [ba, ha], hB⟩
 ·go_wp2_with fail
  refine (gF 10 x y z _ (by omega) (by omega)).mono ?_
  rintro e w2 ⟨rfl, hB2⟩
  replace hB := ak hB hB2
  go_wp2_with fail
  go_ret
  exact ⟨by simp [ba, ha], hB⟩
theorem ki (n : Int) (w : World) :
  Calls Tryz.prog 211 #[.int .i64 n] w fun e w' => e = .returned (.int .i64 (jz n)) ∧ w' = w := by
 by_cases h : n < 0
 ·have HS := yz (show jz n = wrap64 (wrap64 (-n) * n) by unfold jz; rw [if_pos h])
  go_enter Tryz.func211, Tryz.ntmps211
  go_wp2
  go_ret
  exact ⟨by rw [yy HS]; rfl, rfl⟩
 ·have HS := yz (show jz n = wrap64 (n * n) by unfold jz; rw [if_neg h])
  go_enter Tryz.func211, Tryz.ntmps211
  go_wp2
  go_ret
  exact ⟨by rw [yy HS]; rfl, rfl⟩
theorem jd (a b : Int) (w : World) :
  Calls Tryz.prog 207 #[.int .i64 a, .int .i64 b] w fun e w' => e = .returned (.int .i64 (ja a b)) ∧ w' = w := by
 by_cases h : a < b
 ·have HS := yz (show ja a b = -1 by unfold ja; rw [if_pos h])
  go_enter Tryz.func207, Tryz.ntmps207
  go_wp2
  go_ret
  exact ⟨by rw [yy HS]; rfl, rfl⟩
 ·by_cases h2 : b < a
  ·have HS := yz (show ja a b = 1 by unfold ja; rw [if_neg h, if_pos h2])
   go_enter Tryz.func207, Tryz.ntmps207
   go_wp2
   go_ret
   exact ⟨by rw [yy HS]; rfl, rfl⟩
  ·have HS := yz (show ja a b = 0 by unfold ja; rw [if_neg h, if_neg h2])
   go_enter Tryz.func207, Tryz.ntmps207
   go_wp2
   go_ret
   exact ⟨by rw [yy HS]; rfl, rfl⟩
theorem ju (a1 a2 a3 b1 b2 b3 : Int) (w : World) :
  Calls Tryz.prog 212 #[.func (.func 183) #[.agg #[.int .i64 a1, .int .i64 a2, .int .i64 a3]] #[], .func (.func 183) #[.agg #[.int .i64 b1, .int .i64 b2, .int .i64 b3]] #[]] w fun e w' => e = .returned (.int .i64 (wrap64 (el a1 a2 a3 a1 a2 a3 * el b1 b2 b3 b1 b2 b3))) ∧ Below w.heap.size w w' := by
 go_enter Tryz.func212, Tryz.ntmps212
 go_wp2_with fail
 refine (gA a1 a2 a3 _).mono ?_
 rintro e w1 ⟨rfl, hB1⟩
 go_wp2_with fail
 refine (gA b1 b2 b3 _).mono ?_
 rintro e w2 ⟨rfl, hB2⟩
 go_wp2_with fail
 go_ret
 exact ⟨rfl, ak hB1 hB2⟩
theorem fY {x y z : Int} (h : cc x y z = true) : aw x y z = true ∧ aJ 1800 x y z = true := by simpa [cc] using h
theorem fc {x y z : Int} (h : ba x y z = true) : aw x y z = true ∧ aJ 10 x y z = true := by simpa [ba] using h
theorem vR {a1 a2 a3 b1 b2 b3 c1 c2 c3 d1 d2 d3 : Int} (ha : cc a1 a2 a3 = true) (hb : cc b1 b2 b3 = true) (hc : ba c1 c2 c3 = true) (hd : ba d1 d2 d3 = true) :
  oI a1 a2 a3 b1 b2 b3 c1 c2 c3 d1 d2 d3 = ja (wrap64 (jz (mF a1 a2 a3 b1 b2 b3) * wrap64 (el c1 c2 c3 c1 c2 c3 * el d1 d2 d3 d1 d2 d3))) (wrap64 (jz (mF c1 c2 c3 d1 d2 d3) * wrap64 (el a1 a2 a3 a1 a2 a3 * el b1 b2 b3 b1 b2 b3))) := by
 have h := sw (fY ha).2 (fY hb).2 (fc hc).2 (fc hd).2
 unfold oI mF
 rw [(fY ha).1, (fY hb).1, (fc hc).1, (fc hd).1, ha, hb, hc, hd, if_pos (by rfl), if_pos (by rfl), if_pos (by rfl), h.1, h.2]
end
section
open Go.RowKit
def jZ (w : World) (b o : Nat) (s : St) : Prop := w.cell? ⟨b, o, none⟩ = some (.int .i64 s.1) ∧ w.cell? ⟨b, o + 1, none⟩ = some (.int .i64 s.2.1) ∧ w.cell? ⟨b, o + 2, none⟩ = some (.int .i64 s.2.2.1) ∧ w.cell? ⟨b, o + 3, none⟩ = some (.int .i64 s.2.2.2)
def aL (w : World) (a : Option Addr) (L : List St) (n : Nat) : Prop := n = 0 ∨ ∃ b o, a = some ⟨b, o, none⟩ ∧ b < w.heap.size ∧ ∀ i, i < n → jZ w b (o + i * 4) (stA L i)
theorem jZ.kept {w w' : World} {b o : Nat} {s : St} (h : jZ w b o s) (hb : b < w.heap.size) (hB : Below w.heap.size w w') : jZ w' b o s := by
 obtain ⟨h0, h1, h2, h3⟩ := h
 exact ⟨by rw [hB.cell (p := ⟨b, o, none⟩) hb]; exact h0, by rw [hB.cell (p := ⟨b, o + 1, none⟩) hb]; exact h1, by rw [hB.cell (p := ⟨b, o + 2, none⟩) hb]; exact h2, by rw [hB.cell (p := ⟨b, o + 3, none⟩) hb]; exact h3⟩
theorem aL.kept {w w' : World} {a : Option Addr} {L : List St} {n : Nat} (h : aL w a L n) (hB : Below w.heap.size w w') : aL w' a L n := by
 rcases h with h | ⟨b, o, ha, hb, hc⟩
 ·exact .inl h
 ·exact .inr ⟨b, o, ha, Nat.lt_of_lt_of_le hb hB.size, fun i hi => (hc i hi).kept hb hB⟩
theorem vlt {w : World} {b : Nat} {x y z : Int} (h : aF w b x y z) : b < w.heap.size := World.block_lt_of_cell? w _ h.1
theorem aL.less {w : World} {a : Option Addr} {L : List St} {n m : Nat} (h : aL w a L n) (hm : m ≤ n) : aL w a L m := by
 rcases h with h | ⟨b, o, ha, hb, hc⟩
 ·exact .inl (by omega)
 ·exact .inr ⟨b, o, ha, hb, fun i hi => hc i (by omega)⟩
theorem jr (L : List St) (n : Nat) (x y z : Int) (a : Option Addr) (c : Nat) (w : World) (hn : n ≤ 1048576) (hS : aL w a L n) :
  Calls Tryz.prog 173 #[.agg #[.int .i64 x, .int .i64 y, .int .i64 z], .slice a n c] w fun e w' => e = .returned (.bool (dt L (0, x, y, z) n)) ∧ Below w.heap.size w w' := by
 rcases hS with rfl | ⟨b, o, rfl, hb, hc⟩
 ·go_enter Tryz.func173, Tryz.ntmps173
  go_wp2_with fail
  refine wp_loop_rounds 1 ?_
  rw [rounds_succ]
  go_wp2_with fail
  go_ret
  exact ⟨rfl, an _ _⟩
 ·have HC := yz hc
  clear hc
  have V0 := yz (aD w x y z 72)
  have B0 := yz (an w (.cells #[.int .i64 x, .int .i64 y, .int .i64 z] 72))
  go_enter Tryz.func173, Tryz.ntmps173
  go_wp2_with fail
  go_loopw [9] (fun i wr => ∃ k : Nat, k ≤ n ∧ i = .int .i64 k ∧ Hid (mO L (0, x, y, z) k) ∧ Hid (Below w.heap.size w wr) ∧ Hid (aF wr w.heap.size x y z)) (fun i _ => n - (intOf i).toNat)
  case atStart => exact ⟨0, by omega, rfl, yz (fun j hj => absurd hj (Nat.not_lt_zero _)), B0, V0⟩
  case round =>
   obtain ⟨k, hk, rfl, HF, HB, HV⟩ := hrel
   by_cases hkn : k < n
   ·obtain ⟨⟨s1, s2, s3, s4⟩, hs⟩ : ∃ s, stA L k = s := ⟨_, rfl⟩
    have hst := ((yy HC) k hkn).kept hb (yy HB)
    rw [hs] at hst
    obtain ⟨c0, c1, c2, c3⟩ := hst
    have HS := yz hs
    clear hs
    have V1 := yz (aF.alloc (yy HV) (vlt (yy HV)) (.cells #[.int .i64 s1, .int .i64 s2, .int .i64 s3, .int .i64 s4] 74))
    have B1 := yz ((yy HB).alloc (yy HB).size (.cells #[.int .i64 s1, .int .i64 s2, .int .i64 s3, .int .i64 s4] 74))
    obtain ⟨v0, v1, v2⟩ := yy V1
    go_wp2_with fail
    refine (eH x y z s2 s3 s4 _).mono ?_
    rintro e w2 ⟨rfl, hx⟩
    have HV2 := yz ((yy V1).kept (vlt (yy V1)) hx)
    have HB2 := yz (ak (yy B1) hx)
    clear hx c0 c1 c2 c3 v0 v1 v2 V1 B1 HB HV
    have HR : Hid (nB (0, x, y, z) (stA L k) = gU x y z s2 s3 s4) := yz (by rw [yy HS]; rfl)
    cases hq : gU x y z s2 s3 s4
    ·rw [hq] at HR
     go_wp2_with fail
     go_roundw
     case rel => exact ⟨k + 1, by omega, by go_num, yz (qD (yy HF) (yy HR)), HB2, HV2⟩
     case measure => simp [intOf]; omega
    ·rw [hq] at HR
     go_wp2_with fail
     go_ret
     exact ⟨by rw [rS hkn (yy HR)]; rfl, yy HB2⟩
   ·have hkn' : k = n := by omega
    subst hkn'
    go_wp2_with fail
    go_ret
    exact ⟨by rw [sP (yy HF)]; rfl, yy HB⟩
abbrev D3 := Int × Int × Int
def vA (L : List D3) (i : Nat) : D3 := L.getD i (0, 0, 0)
def vk (v : D3) : Bool := cc v.1 v.2.1 v.2.2
def eG (p q : D3) : Bool := gU p.1 p.2.1 p.2.2 q.1 q.2.1 q.2.2
def fE (L : List D3) (v : D3) (n : Nat) : Bool := (List.range n).any fun j => eG v (vA L j)
def jG (L : List D3) (v : D3) (k : Nat) : Prop := ∀ j, j < k → eG v (vA L j) = false
def okV (L : List D3) (i : Nat) : Bool := vk (vA L i) && !fE L (vA L i) i
def oe (L : List D3) (k : Nat) : Prop := ∀ j, j < k → okV L j = true
def aQ (L : List D3) : Bool := decide (L.length ≤ 6) && (List.range L.length).all (okV L)
theorem tH {L : List D3} {v : D3} {n : Nat} (h : jG L v n) : fE L v n = false := by
 unfold fE
 rw [List.any_eq_false]
 intro j hj
 rw [h j (List.mem_range.1 hj)]
 simp
theorem ry {L : List D3} {v : D3} {n j : Nat} (hj : j < n) (h : eG v (vA L j) = true) : fE L v n = true := by
 unfold fE
 rw [List.any_eq_true]
 exact ⟨j, List.mem_range.2 hj, h⟩
theorem pI {L : List D3} {v : D3} {k : Nat} (h : jG L v k) (h1 : eG v (vA L k) = false) : jG L v (k + 1) := by
 intro j hj
 by_cases e : j = k
 ·rw [e]; exact h1
 ·exact h j (by omega)
theorem sF {L : List D3} {k : Nat} (h : oe L k) (h1 : okV L k = true) : oe L (k + 1) := by
 intro j hj
 by_cases e : j = k
 ·rw [e]; exact h1
 ·exact h j (by omega)
theorem me {L : List D3} (hl : L.length ≤ 6) (h : oe L L.length) : aQ L = true := by
 unfold aQ
 rw [Bool.and_eq_true, List.all_eq_true]
 exact ⟨by simpa using hl, fun j hj => h j (List.mem_range.1 hj)⟩
theorem oj {L : List D3} {k : Nat} (hk : k < L.length) (h : okV L k = false) : aQ L = false := by
 unfold aQ
 have : (List.range L.length).all (okV L) = false := by
  rw [List.all_eq_false]
  exact ⟨k, List.mem_range.2 hk, by rw [h]; simp⟩
 rw [this, Bool.and_false]
theorem oW {L : List D3} (hl : 6 < L.length) : aQ L = false := by
 unfold aQ
 rw [show decide (L.length ≤ 6) = false by simp; omega, Bool.false_and]
theorem em {L : List D3} (h : aQ L = true) : L.length ≤ 6 ∧ oe L L.length := by
 unfold aQ at h
 rw [Bool.and_eq_true, List.all_eq_true] at h
 exact ⟨by simpa using h.1, fun j hj => h.2 j (List.mem_range.2 hj)⟩
end
section
open Go.RowKit
theorem infoByte : ∃ i : TypeInfo, Tryz.prog.info? 5 = some i ∧ i.zero = some (.int .u8 0) ∧ i.size = 1 ∧ i.bytes = 1 := by
 refine ⟨_, rfl, ?_, ?_, ?_⟩ <;> kernel_rfl
theorem qk (n : Nat) (h : n ≤ 281474976710656) : ∃ M : Array Value, M.size = n ∧ ∀ W : World, (Instr.makeSlice 22 (.int .i64 (n : Int)) (.int .i64 (n : Int))).run Tryz.prog W = .ok (.slice (some ⟨W.heap.size, 0, none⟩) n n) (W.alloc (.cells M 5)) := by
 obtain ⟨i0, hi, hz0, hz1, hz2⟩ := infoByte
 refine ⟨madeCells (Value.int .u8 0).cells (((n : Nat) : Int).toNat * i0.size), by rw [size_madeCells, hz1]; simp, fun W => ?_⟩
 have h := run_make (P := Tryz.prog) W 22 5 i0 (.int .u8 0) Tryz.underlying22 hi hz0 .i64 .i64 (n : Int) (n : Int) (by omega) (by omega) (by rw [hz2]; omega) (by omega)
 simpa using h
theorem fk (w : World) (M Y : Array Value) (T : TypeId) : (w.alloc (.cells M T)).setRow w.heap.size Y = w.alloc (.cells Y T) := by
 unfold World.setRow World.alloc
 congr 1
 apply Array.ext
 ·simp
 ·intro i h1 h2
  have h3 : i < w.heap.size + 1 := by simpa using h2
  simp only [Array.getElem_modify, Array.getElem_push]
  by_cases e : i = w.heap.size
  ·subst e; simp
  ·have h4 : i < w.heap.size := by omega
   simp [Ne.symm e, h4]
theorem lR (w : World) (T : TypeId) (Y : Array Value) (s : ByteArray) (hY : Y.toList = Lib.byteCells s.data.toList) (cap : Nat) :
  (convert 22 9 (.slice (some ⟨w.heap.size, 0, none⟩) s.size cap)).run Tryz.prog (w.alloc (.cells Y T)) = .ok (.string s) (w.alloc (.cells Y T)) := by
 refine Lib.run_convert_whole (P := Tryz.prog) _ 22 5 9 Tryz.underlying22 Tryz.underlying5 Tryz.underlying9 w.heap.size 0 s ?_ cap
 intro i hi
 have hl : Y[i]? = some (.int .u8 (s[i].toNat : Int)) := by
  rw [← Array.getElem?_toList, hY, Lib.byteCells, List.getElem?_map]
  have : s.data.toList[i]? = some s[i] := by rw [Array.getElem?_toList]; exact Array.getElem?_eq_getElem hi
  rw [this]; rfl
 simp [hl]
theorem nh (a : ByteArray) : a ++ ByteArray.empty = a := by
 apply ByteArray.ext
 simp
end
section
open Go.RowKit Go.Sort
def dG (k : Nat) : ByteArray := if k = 0 then ⟨#[]⟩ else ⟨(Lib.decDigits k).toArray⟩
def dgB (d : Nat) : UInt8 := UInt8.ofNat (48 + d)
theorem vl (k l : List UInt8) : ((⟨k.toArray⟩ : ByteArray) ++ ⟨l.toArray⟩) = ⟨(k ++ l).toArray⟩ := by
 apply ByteArray.ext
 simp
theorem uS {k : Nat} (hk : k ≠ 0) : dG k = dG (k / 10) ++ ⟨#[dgB (k % 10)]⟩ := by
 unfold dG dgB
 rw [if_neg hk]
 by_cases h : k < 10
 ·rw [if_pos (by omega), Lib.decDigits_one h, Nat.mod_eq_of_lt h]
  exact (vl [] _).symm
 ·rw [if_neg (by omega), Lib.decDigits, dif_neg h]
  exact (vl _ [_]).symm
theorem vM (x : UInt8) : (⟨#[x]⟩ : ByteArray).size = 1 := rfl
end
end Go.Proofs.YtdchjcadhlkpfaaGreatDoor
