/- Several texts in one: ModF, DkA, DsD, DsE, DsF, DeskA. -/
import Derived.Laws.AppendOwn
import Derived.Laws.EntriesVeiled
import Derived.Deep.RegionHeld
import Derived.Test.YtdchjcadhlkpfaaGreatDoorQFnTopOwn17
import Derived.Test.YtdchjcadhlkpfaaGreatDoorQFnTopOwn16
import Derived.Test.YtdchjcadhlkpfaaGreatDoorQFnTopOwn15
import Derived.Test.YtdchjcadhlkpfaaGreatDoorQFnTopOwn26
import Derived.Test.YtdchjcadhlkpfaaGreatDoorQFnTopOwn1
import Derived.Test.YtdchjcadhlkpfaaGreatDoorQFnTopOwn2
namespace Go.Proofs.YtdchjcadhlkpfaaGreatDoor
set_option linter.unusedVariables false
set_option linter.unusedSimpArgs false
set_option maxRecDepth 100000
set_option maxHeartbeats 8000000
section
open Go.RowKit Go.Sort
def tF : ByteArray := ⟨#[98, 108, 105, 110, 100]⟩
def sG : ByteArray := ⟨#[100, 114, 105, 102, 116]⟩
def sIds : ByteArray := ⟨#[105, 100, 115]⟩
def vo : ByteArray := ⟨#[109, 111, 118, 101]⟩
def st : ByteArray := ⟨#[114, 101, 115, 101, 116]⟩
def sSee : ByteArray := ⟨#[115, 101, 101]⟩
def sW : ByteArray := ⟨#[115, 116, 97, 116, 101]⟩
def fnV (f : Nat) : Value := .func (.func f) #[] #[]
def fwO : Obj := .cells #[.string tF, fnV 86, fnV 87, .string sG, fnV 88, fnV 89, .string sIds, fnV 90, fnV 91, .string vo, fnV 88, fnV 92, .string st, fnV 86, fnV 93, .string sSee, fnV 90, fnV 94, .string sW, fnV 86, fnV 95] 125
theorem jR (w : World) : Calls Tryz.prog 66 #[] w fun e w' => e = .returned (.slice (some ⟨w.heap.size, 0, none⟩) 7 7) ∧ w' = w.alloc fwO := by
 go_enter Tryz.func66, Tryz.ntmps66
 go_wp2
 go_ret
 exact ⟨rfl, rfl⟩
theorem rT {w w' : World} {B n m : Nat} {t : TypeId} {v : Value} {xs : List Value} (h : w.ownsRow B t m v n xs) (hB : Below w.heap.size w w') : w'.ownsRow B t m v n xs := by
 obtain ⟨h1, h2⟩ := h
 refine ⟨h1, ?_⟩
 rcases h2 with h2 | ⟨g, c', cur, e, hg, hh, r⟩
 ·exact .inl h2
 ·exact .inr ⟨g, c', cur, e, hg, by rw [hB.block g (Array.getElem?_eq_some_iff.1 hh).1]; exact hh, r⟩
def fwL : List Value := [.string tF, fnV 86, fnV 87, .string sG, fnV 88, fnV 89, .string sIds, fnV 90, fnV 91, .string vo, fnV 88, fnV 92, .string st, fnV 86, fnV 93, .string sSee, fnV 90, fnV 94, .string sW, fnV 86, fnV 95]
def fwF (j : Nat) : Value := fwL.getD j (.string ⟨#[]⟩)
theorem td {w : World} {B B' n m : Nat} {t : TypeId} {v : Value} {xs : List Value} (h : w.ownsRow B t m v n xs) (hb : B' ≤ B) : w.ownsRow B' t m v n xs := by
 obtain ⟨h1, h2⟩ := h
 refine ⟨h1, ?_⟩
 rcases h2 with h2 | ⟨g, c', cur, e, hg, r⟩
 ·exact .inl h2
 ·exact .inr ⟨g, c', cur, e, by omega, r⟩
theorem wt (w : World) : bt (w.alloc fwO) 125 w.heap.size 21 fwF := by
 refine ⟨fwL.toArray, heap_alloc_new w fwO, fun j hj => ?_⟩
 unfold fwF
 rw [List.getElem?_toArray, List.getD_eq_getElem?_getD, List.getElem?_eq_getElem (show j < fwL.length from hj)]
 rfl
end
section
open Go.RowKit
def kE (w : World) : Prop := ∃ m : Int, w.cell? ⟨0, 0, none⟩ = some (.int .i64 m)
theorem kE.kept {w w' : World} (h : kE w) (hB : Below w.heap.size w w') : kE w' := by
 obtain ⟨m, hm⟩ := h
 exact ⟨m, jN hm hB⟩
theorem kW (s : ByteArray) (c : UInt8) : Lib.splitB ⟨#[c]⟩ 0 (Lib.countB s ⟨#[c]⟩) s = (pcs c s.data.toList).map (fun l => (⟨l.toArray⟩ : ByteArray)) := by
 have h := Lib.splitB_data ⟨#[c]⟩ 0 (Lib.countB s ⟨#[c]⟩) s
 have e : Lib.splitK (⟨#[c]⟩ : ByteArray).data.toList 0 (Lib.countB s ⟨#[c]⟩) s.data.toList = pcs c s.data.toList := lA c s.data.toList.length s.data.toList (Nat.le_refl _)
 rw [e] at h
 rw [← h, List.map_map]
 conv => lhs; rw [← List.map_id (Lib.splitB ⟨#[c]⟩ 0 (Lib.countB s ⟨#[c]⟩) s)]
 apply List.map_congr_left
 intro x _
 apply ByteArray.ext
 simp
theorem qY (s : ByteArray) (c : UInt8) (w : World) (hs : s.size ≤ 8000) (hm : kE w) :
  Calls Tryz.prog 65 #[.string s, .string ⟨#[c]⟩] w fun e w' => e = .returned (.slice (some ⟨w.heap.size, 0, none⟩) (pcs c s.data.toList).length (pcs c s.data.toList).length) ∧ w' = w.alloc (.cells ((pcs c s.data.toList).map co).toArray 9) := by
 obtain ⟨m, hm⟩ := hm
 refine (Any.strings_Split { te with } (by kernel_rfl) s ⟨#[c]⟩ m w (by omega) hm (by show 1 ≤ 1; omega)).mono ?_
 rintro e w' ⟨rfl, rfl⟩
 have hl : (Lib.splitB ⟨#[c]⟩ 0 (Lib.countB s ⟨#[c]⟩) s).length = Lib.countB s ⟨#[c]⟩ + 1 := Lib.splitB_all ⟨#[c]⟩ (by show 1 ≤ 1; omega) 0 _ s rfl
 rw [kW, List.length_map] at hl
 rw [← hl, kW, List.map_map]
 exact ⟨rfl, rfl⟩
theorem uO (s : ByteArray) (c : UInt8) (w : World) (hs : s.size ≤ 8000) (hm : kE w) :
  Calls Tryz.prog 39 #[.string s, .string ⟨#[c]⟩] w fun e w' => e = .returned (.tuple #[co (Lib.cut s.data.toList [c]).1, co (Lib.cut s.data.toList [c]).2.1, .bool (Lib.cut s.data.toList [c]).2.2]) ∧ Below w.heap.size w w' := by
 obtain ⟨m, hm⟩ := hm
 refine (Any.strings_Cut { nr with } s ⟨#[c]⟩ m w (by omega) hm).mono ?_
 rintro e w' ⟨rfl, n, rfl⟩
 exact ⟨rfl, rfl, rfl, rfl, Nat.le_refl _, fun _ _ => rfl⟩
def ks (w : World) (a : Option Addr) (R : List (List UInt8)) : Prop := R = [] ∨ ∃ g o, a = some ⟨g, o, none⟩ ∧ g < w.heap.size ∧ ∀ (j : Nat) x, R[j]? = some x → w.cell? ⟨g, o + j, none⟩ = some (co x)
def dB (o : Option Ln) (e : Ending) : Prop := (∃ l, o = some l ∧ e = .returned (.tuple #[.agg #[co l.t, .int .i64 l.n], .bool true])) ∨ (o = none ∧ ∃ t n, e = .returned (.tuple #[.agg #[.string t, .int .i64 n], .bool false]))
theorem ej (t : ByteArray) (n : Int) : dB none (.returned (.tuple #[.agg #[.string t, .int .i64 n], .bool false])) := .inr ⟨rfl, t, n, rfl⟩
theorem fP (l : Ln) : dB (some l) (.returned (.tuple #[.agg #[co l.t, .int .i64 l.n], .bool true])) := .inl ⟨l, rfl, rfl⟩
theorem dM (k : Nat) (R : List (List UInt8)) (a : Option Addr) (c : Nat) (w : World) :
  Calls Tryz.prog 86 #[.slice a R.length c] w fun e w' => dB (eA k R) e ∧ Below w.heap.size w w' := by
 cases R with
 | nil =>
  go_enter Tryz.func86, Tryz.ntmps86
  go_wp2
  exact bodyPost_ret (v := .tuple #[.agg #[.string ⟨#[]⟩, .int .i64 0], .bool true]) (by simp [results, Tryz.results86, go_sem]) rfl ⟨fP ⟨k, [], 0⟩, an _ _⟩
 | cons x xs =>
  obtain ⟨m, hm⟩ : ∃ m, (x :: xs).length = m := ⟨_, rfl⟩
  have hm1 : 1 ≤ m := by rw [← hm]; simp
  have hb : ((m : Int) == 0) = false := by simpa using (show (m : Int) ≠ 0 by omega)
  have HT : Hid (eA k (x :: xs) = none) := yz rfl
  rw [hm]
  clear hm
  go_enter Tryz.func86, Tryz.ntmps86
  go_wp2
  exact bodyPost_ret (v := .tuple #[.agg #[.string ⟨#[]⟩, .int .i64 0], .bool false]) (by simp [results, Tryz.results86, go_sem]) rfl ⟨by rw [yy HT]; exact ej _ _, an _ _⟩
theorem oH {w : World} {a : Option Addr} {y : List UInt8} (h : ks w a [y]) : ∃ g o, a = some ⟨g, o, none⟩ ∧ g < w.heap.size ∧ w.cell? ⟨g, o, none⟩ = some (co y) := by
 rcases h with h | ⟨g, o, e, hg, hc⟩
 ·cases h
 ·exact ⟨g, o, e, hg, hc 0 y rfl⟩
theorem sh {R : List (List UInt8)} (h : R.length ≠ 1) (k : Nat) : eU k R = none ∧ fy k R = none := by
 match R, h with
 | [], _ => exact ⟨rfl, rfl⟩
 | x :: y :: r, _ => exact ⟨rfl, rfl⟩
theorem iy (k : Nat) (R : List (List UInt8)) (a : Option Addr) (c : Nat) (w : World) (hR : ks w a R) :
  Calls Tryz.prog 88 #[.slice a R.length c] w fun e w' => dB (eU k R) e ∧ Below w.heap.size w w' := by
 by_cases h1 : R.length = 1
 ·obtain ⟨y, rfl⟩ : ∃ y, R = [y] := by
   match R, h1 with
   | [y], _ => exact ⟨y, rfl⟩
  obtain ⟨g, o, rfl, hg, hc⟩ := oH hR
  have hc2 := jN hc (an w (.cells #[.string ⟨#[]⟩, .int .i64 0] 90))
  unfold co at hc2
  obtain ⟨yb, hyb⟩ : ∃ yb : ByteArray, (⟨y.toArray⟩ : ByteArray) = yb := ⟨_, rfl⟩
  rw [hyb] at hc2
  have HY := yz hyb
  clear hyb hc hR h1
  have hB := yz (an w (.cells #[.string ⟨#[]⟩, .int .i64 0] 90))
  have R0 := yz (au w [.string ⟨#[]⟩, .int .i64 0] 90)
  have r0 := (yy R0).cell 0 _ rfl
  have r1 := (yy R0).cell 1 _ rfl
  have f0 := (yy R0).free 0
  have f1 := (yy R0).free 1
  have hne : g ≠ w.heap.size := by omega
  by_cases hz : y = []
  ·have he : (yb.toList == []) = true := qc (l := []) (by rw [← yy HY, hz])
   have HT : Hid (eU k [y] = none) := yz (by show (if y = [] then none else some (⟨k, y, 0⟩ : Ln)) = none; rw [if_pos hz])
   go_enter Tryz.func88, Tryz.ntmps88
   go_upto_region 3 with fail
   generalize w.alloc (.cells #[.string ⟨#[]⟩, .int .i64 0] 90) = W1 at *
   go_region
   all_goals
    go_wp2
    refine bodyPost_ret (v := .tuple #[.agg #[.string yb, .int .i64 0], .bool false]) ?_ rfl ⟨by rw [yy HT]; exact ej _ _, ?_⟩
    ·simp [results, Tryz.results88, go_sem, r0, r1]
    ·refine Below.drew ?_
     iterate 2 (refine Below.setCell ?_ (Nat.le_refl w.heap.size) _)
     exact yy hB
  ·have he : (yb.toList == []) = false := mA (l := []) (fun e => hz (by rw [← yy HY] at e; have := congrArg (fun b : ByteArray => b.data.toList) e; simpa using this))
   have HT : Hid (dB (eU k [y]) (.returned (.tuple #[.agg #[.string yb, .int .i64 0], .bool true]))) := yz (by show dB (if y = [] then none else some (⟨k, y, 0⟩ : Ln)) _; rw [if_neg hz, ← yy HY]; exact fP ⟨k, y, 0⟩)
   go_enter Tryz.func88, Tryz.ntmps88
   go_upto_region 3 with fail
   generalize w.alloc (.cells #[.string ⟨#[]⟩, .int .i64 0] 90) = W1 at *
   go_region
   all_goals
    go_wp2
    refine bodyPost_ret (v := .tuple #[.agg #[.string yb, .int .i64 0], .bool true]) ?_ rfl ⟨yy HT, ?_⟩
    ·simp [results, Tryz.results88, go_sem, r0, r1]
    ·refine Below.drew ?_
     iterate 2 (refine Below.setCell ?_ (Nat.le_refl w.heap.size) _)
     exact yy hB
 ·have HT := yz (sh h1 k).1
  obtain ⟨m, hm⟩ : ∃ m, R.length = m := ⟨_, rfl⟩
  rw [hm] at h1 ⊢
  have hb : ((m : Int) == 1) = false := by simpa using (show (m : Int) ≠ 1 by omega)
  clear hm hR
  go_enter Tryz.func88, Tryz.ntmps88
  go_wp2
  exact bodyPost_ret (v := .tuple #[.agg #[.string ⟨#[]⟩, .int .i64 0], .bool false]) (by simp [results, Tryz.results88, go_sem]) rfl ⟨by rw [yy HT]; exact ej _ _, an _ _⟩
theorem fW (k : Nat) (R : List (List UInt8)) (a : Option Addr) (c : Nat) (w : World) (hR : ks w a R) (hz : ∀ x ∈ R, x.length ≤ 8000) :
  Calls Tryz.prog 90 #[.slice a R.length c] w fun e w' => dB (fy k R) e ∧ Below w.heap.size w w' := by
 by_cases h1 : R.length = 1
 ·obtain ⟨y, rfl⟩ : ∃ y, R = [y] := by
   match R, h1 with
   | [y], _ => exact ⟨y, rfl⟩
  obtain ⟨g, o, rfl, hg, hc⟩ := oH hR
  have hyl := hz y (by simp)
  have hc2 := jN hc (an w (.cells #[.string ⟨#[]⟩, .int .i64 0] 90))
  unfold co at hc2
  obtain ⟨yb, hyb⟩ : ∃ yb : ByteArray, (⟨y.toArray⟩ : ByteArray) = yb := ⟨_, rfl⟩
  rw [hyb] at hc2
  have hys : yb.size ≤ 8000 := by rw [← hyb]; show y.toArray.size ≤ 8000; simpa using hyl
  have cN := yz (fun W => lm yb W hys)
  rw [show yb.data.toList = y by rw [← hyb]] at cN
  clear hyb hc hR h1 hz
  have HT : Hid (fy k [y] = if fN y = true then some ⟨k, [], jA y⟩ else none) := yz rfl
  have hB := yz (an w (.cells #[.string ⟨#[]⟩, .int .i64 0] 90))
  have R0 := yz (au w [.string ⟨#[]⟩, .int .i64 0] 90)
  generalize jA y = vy at *
  cases hq : fN y
  all_goals
   rw [hq] at cN HT
   go_enter Tryz.func90, Tryz.ntmps90
   go_wp2_with fail
   refine (yy cN _).mono ?_
   rintro e W3 ⟨rfl, hw3⟩
   rw [hw3]
   clear hw3 W3
   have r0 := (yy R0).cell 0 _ rfl
   have r1 := (yy R0).cell 1 _ rfl
   have f0 := (yy R0).free 0
   have f1 := (yy R0).free 1
   generalize w.alloc (.cells #[.string ⟨#[]⟩, .int .i64 0] 90) = W1 at *
   go_wp2
  ·refine bodyPost_ret (v := .tuple #[.agg #[.string ⟨#[]⟩, .int .i64 0], .bool false]) ?_ rfl ⟨by rw [yy HT]; exact ej _ _, ?_⟩
   ·simp [results, Tryz.results90, go_sem, r0, r1]
   ·iterate 2 (refine Below.setCell ?_ (Nat.le_refl w.heap.size) _)
    exact yy hB
  ·refine bodyPost_ret (v := .tuple #[.agg #[.string ⟨#[]⟩, .int .i64 vy], .bool true]) ?_ rfl ⟨by rw [yy HT, if_pos (by first | rfl | trivial)]; exact fP ⟨k, [], vy⟩, ?_⟩
   ·simp [results, Tryz.results90, go_sem, r0, r1]
   ·iterate 2 (refine Below.setCell ?_ (Nat.le_refl w.heap.size) _)
    exact yy hB
 ·have HT := yz (sh h1 k).2
  obtain ⟨m, hm⟩ : ∃ m, R.length = m := ⟨_, rfl⟩
  rw [hm] at h1 ⊢
  have hb : ((m : Int) == 1) = false := by simpa using (show (m : Int) ≠ 1 by omega)
  clear hm hR hz
  go_enter Tryz.func90, Tryz.ntmps90
  go_wp2
  exact bodyPost_ret (v := .tuple #[.agg #[.string ⟨#[]⟩, .int .i64 0], .bool false]) (by simp [results, Tryz.results90, go_sem]) rfl ⟨by rw [yy HT]; exact ej _ _, an _ _⟩
def lQ (k : Nat) (R : List (List UInt8)) : Option Ln := match k with
 | 0 => eA 0 R
 | 1 => eU 1 R
 | 2 => fy 2 R
 | 3 => eU 3 R
 | 4 => eA 4 R
 | 5 => fy 5 R
 | _ => eA 6 R
def bX : Nat → Nat
 | 0 => 87
 | 1 => 89
 | 2 => 91
 | 3 => 92
 | 4 => 93
 | 5 => 94
 | _ => 95
theorem nQ {k : Nat} (h : k < 7) : k = 0 ∨ k = 1 ∨ k = 2 ∨ k = 3 ∨ k = 4 ∨ k = 5 ∨ k = 6 := by omega
theorem uF {s p0 : List UInt8} {r : List (List UInt8)} {k : Nat} (hp : pcs 32 s = p0 :: r) (hk : k < 7) (h : p0 = kT k) : eL s = lQ k r := by
 rw [nC hp]
 subst h
 rcases nQ hk with rfl | rfl | rfl | rfl | rfl | rfl | rfl <;> rfl
theorem uz {s p0 : List UInt8} {r : List (List UInt8)} (hp : pcs 32 s = p0 :: r) (h : ∀ k, k < 7 → p0 ≠ kT k) : eL s = none := by
 rw [nC hp, if_neg (show p0 ≠ mQ from h 0 (by omega)), if_neg (show p0 ≠ mM from h 1 (by omega)), if_neg (show p0 ≠ uk from h 2 (by omega)), if_neg (show p0 ≠ qd from h 3 (by omega)), if_neg (show p0 ≠ mW from h 4 (by omega)), if_neg (show p0 ≠ ur from h 5 (by omega)), if_neg (show p0 ≠ mj from h 6 (by omega))]
theorem vN (k : Nat) (hk : k < 7) : ∃ tf, fwF (k * 3) = co (kT k) ∧ fwF (k * 3 + 1) = fnV tf ∧ fwF (k * 3 + 2) = fnV (bX k) ∧ (∀ (args : Array Value) (W : World), (callFunc tf args).run Tryz.prog W = .ok (.enter tf args) W) ∧ (∀ (W : World) (R : List (List UInt8)) (a : Option Addr) (c : Nat), ks W a R → (∀ x ∈ R, x.length ≤ 8000) → Calls Tryz.prog tf #[.slice a R.length c] W fun e w' => dB (lQ k R) e ∧ Below W.heap.size W w') := by
 rcases nQ hk with rfl | rfl | rfl | rfl | rfl | rfl | rfl
 ·exact ⟨86, rfl, rfl, rfl, fun _ _ => by kernel_rfl, fun W R a c _ _ => dM 0 R a c W⟩
 ·exact ⟨88, rfl, rfl, rfl, fun _ _ => by kernel_rfl, fun W R a c h _ => iy 1 R a c W h⟩
 ·exact ⟨90, rfl, rfl, rfl, fun _ _ => by kernel_rfl, fun W R a c h hz => fW 2 R a c W h hz⟩
 ·exact ⟨88, rfl, rfl, rfl, fun _ _ => by kernel_rfl, fun W R a c h _ => iy 3 R a c W h⟩
 ·exact ⟨86, rfl, rfl, rfl, fun _ _ => by kernel_rfl, fun W R a c _ _ => dM 4 R a c W⟩
 ·exact ⟨90, rfl, rfl, rfl, fun _ _ => by kernel_rfl, fun W R a c h hz => fW 5 R a c W h hz⟩
 ·exact ⟨86, rfl, rfl, rfl, fun _ _ => by kernel_rfl, fun W R a c _ _ => dM 6 R a c W⟩
def nH (s : ByteArray) (e : Ending) : Prop := (∃ l, eL s.data.toList = some l ∧ l.k < 7 ∧ e = .returned (.tuple #[.agg #[fnV (bX l.k), co l.t, .int .i64 l.n], .bool true])) ∨ (eL s.data.toList = none ∧ ∃ f t n, (f = .nilFunc ∨ ∃ x, f = fnV x) ∧ e = .returned (.tuple #[.agg #[f, .string t, .int .i64 n], .bool false]))
theorem tm {k : Nat} {R : List (List UInt8)} {l : Ln} (hk : k < 7) (h : lQ k R = some l) : l.k = k := by
 have a0 : ∀ j, eA j R = some l → l.k = j := fun j h => by
  match R, h with
  | [], h => cases h; rfl
 have aT : ∀ j, eU j R = some l → l.k = j := fun j h => by
  match R, h with
  | [x], h =>
   have h' : (if x = [] then none else some (⟨j, x, 0⟩ : Ln)) = some l := h
   split at h'
   ·cases h'
   ·cases h'; rfl
 have aN : ∀ j, fy j R = some l → l.k = j := fun j h => by
  match R, h with
  | [x], h =>
   have h' : (if fN x = true then some (⟨j, [], jA x⟩ : Ln) else none) = some l := h
   split at h'
   ·cases h'; rfl
   ·cases h'
 rcases nQ hk with rfl | rfl | rfl | rfl | rfl | rfl | rfl
 ·exact a0 0 h
 ·exact aT 1 h
 ·exact aN 2 h
 ·exact aT 3 h
 ·exact a0 4 h
 ·exact aN 5 h
 ·exact a0 6 h
theorem jI {s : ByteArray} {k : Nat} {R : List (List UInt8)} {e : Ending} (hk : k < 7) (hl : eL s.data.toList = lQ k R) (h : dB (lQ k R) e) : ∃ tb nb bb, e = .returned (.tuple #[.agg #[.string tb, .int .i64 nb], .bool bb]) ∧ nH s (.returned (.tuple #[.agg #[fnV (bX k), .string tb, .int .i64 nb], .bool bb])) := by
 rcases h with ⟨l, h1, rfl⟩ | ⟨h1, t, n, rfl⟩
 ·exact ⟨_, _, _, rfl, .inl ⟨l, by rw [hl, h1], by rw [tm hk h1]; exact hk, by rw [tm hk h1]; rfl⟩⟩
 ·exact ⟨_, _, _, rfl, .inr ⟨by rw [hl, h1], _, _, _, .inr ⟨_, rfl⟩, rfl⟩⟩
theorem sL (w : World) (D : List (List UInt8)) (j : Nat) (x : List UInt8) (h : D[j]? = some x) : (w.alloc (.cells (D.map co).toArray 9)).cell? ⟨w.heap.size, j, none⟩ = some (co x) := by
 rw [cell_of_row _ _ j _ _ _ (heap_alloc_new w _), List.getElem?_toArray, List.getElem?_map, h]
 rfl
theorem dK {w : World} {b b' : Nat} {cs : List Value} {t : TypeId} (h : Blk w b cs t) (hne : b ≠ b') (o : Nat) (x : Value) : Blk (w.setCell ⟨b', o, none⟩ x) b cs t := by
 unfold Blk at h ⊢
 rw [Below.heap_setCell w ⟨b', o, none⟩ x b hne]
 exact h
def DZ : List Value := [.nilFunc, .string ⟨#[]⟩, .int .i64 0]
structure mg (w wr : World) (wb fb : Nat) (D : List (List UInt8)) : Prop where
 out : Blk wr w.heap.size DZ 92
 fw : bt wr 125 fb 21 fwF
 wd : ∀ (j : Nat) x, D[j]? = some x → wr.cell? ⟨wb, j, none⟩ = some (co x)
 bel : Below w.heap.size w wr
 lt1 : w.heap.size < wb
 lt2 : wb < fb
 lt3 : fb < wr.heap.size
theorem mg.kept {w w1 w2 : World} {wb fb : Nat} {D : List (List UInt8)} (h : mg w w1 wb fb D) (hx : Below w1.heap.size w1 w2) : mg w w2 wb fb D :=
 ⟨h.out.kept hx, h.fw.kept hx, fun j x e => jN (h.wd j x e) hx, ak h.bel hx, h.lt1, h.lt2, Nat.lt_of_lt_of_le h.lt3 hx.size⟩
theorem mg.off {w wa wr : World} {wb fb ob : Nat} {D : List (List UInt8)} (h : mg w wr wb fb D) (ho : wa.heap.size ≤ ob) (hfb : fb < wa.heap.size) (x y : Value) : mg w ((wr.setCell ⟨ob, 0, none⟩ x).setCell ⟨ob, 1, none⟩ y) wb fb D := by
 have h1 := h.lt1
 have h2 := h.lt2
 have hc : ∀ (b : Nat), b ≠ ob → ((wr.setCell ⟨ob, 0, none⟩ x).setCell ⟨ob, 1, none⟩ y).heap[b]? = wr.heap[b]? := fun b hb => by rw [Below.heap_setCell _ ⟨ob, 1, none⟩ y b hb, Below.heap_setCell wr ⟨ob, 0, none⟩ x b hb]
 refine ⟨(hc _ (by omega)).trans h.out, h.fw.same (hc _ (by omega)), fun j z e => ?_, (h.bel.setCell (by show w.heap.size ≤ ob; omega) x).setCell (by show w.heap.size ≤ ob; omega) y, h1, h2, by simpa [World.setCell] using h.lt3⟩
 have := h.wd j z e
 unfold World.cell? at this ⊢
 rw [show ((wr.setCell ⟨ob, 0, none⟩ x).setCell ⟨ob, 1, none⟩ y).heap[(⟨wb, j, none⟩ : Addr).block]? = wr.heap[(⟨wb, j, none⟩ : Addr).block]? from hc wb (by omega)]
 exact this
theorem gQ (s : ByteArray) (w : World) (hs : s.size ≤ 8000) (hm : kE w) :
  Calls Tryz.prog 40 #[.string s] w fun e w' => nH s e ∧ Below w.heap.size w w' := by
 obtain ⟨p0, r, hp⟩ : ∃ p0 r, pcs 32 s.data.toList = p0 :: r := by
  cases h : pcs 32 s.data.toList with
  | nil => exact absurd h (lc _ _)
  | cons p0 r => exact ⟨p0, r, rfl⟩
 have HLA := yz (fun k hk h => uF (k := k) hp hk h)
 have HLN := yz (fun h => uz hp h)
 have HSZ := yz (sV 32 s.data.toList)
 have HCT := qU 32 s.data.toList
 have B0 := an w (.cells #[.nilFunc, .string ⟨#[]⟩, .int .i64 0] 92)
 have R0 := au w DZ 92
 have cS := yz (qY s 32 (w.alloc (.cells #[.nilFunc, .string ⟨#[]⟩, .int .i64 0] 92)) hs (hm.kept B0))
 rw [hp] at cS HSZ HCT
 have hl0 : (w.alloc (.cells #[.nilFunc, .string ⟨#[]⟩, .int .i64 0] 92)).heap.size = w.heap.size + 1 := by simp
 clear hm
 go_enter Tryz.func40, Tryz.ntmps40
 go_wp2_with fail
 refine (yy cS).mono ?_
 rintro e w1 ⟨rfl, rfl⟩
 have R0' : Blk (w.alloc (.cells #[.nilFunc, .string ⟨#[]⟩, .int .i64 0] 92)) w.heap.size DZ 92 := R0
 generalize w.alloc (.cells #[.nilFunc, .string ⟨#[]⟩, .int .i64 0] 92) = W0 at *
 have Z1 := an W0 (.cells (List.map co (p0 :: r)).toArray 9)
 have R1 := R0'.kept Z1
 have B1 := ak B0 Z1
 have C1 := sL W0 (p0 :: r)
 have hl1 : (W0.alloc (.cells (List.map co (p0 :: r)).toArray 9)).heap.size = W0.heap.size + 1 := by simp
 generalize W0.alloc (.cells (List.map co (p0 :: r)).toArray 9) = W1 at *
 generalize hwb : W0.heap.size = wb at *
 clear Z1 R0 R0' B0 cS hwb
 subst hl0
 obtain ⟨m, hmm⟩ : ∃ m, (p0 :: r).length = m := ⟨_, rfl⟩
 have HM := yz hmm
 rw [hmm] at HCT ⊢
 have hm1 : 1 ≤ m := by rw [← hmm]; simp
 have hm9 : m ≤ 8001 := by rw [cV] at HCT; omega
 clear hmm HCT
 go_wp2_with fail
 refine (jR _).mono ?_
 rintro e w2 ⟨rfl, rfl⟩
 have HST : Hid (mg w (W1.alloc fwO) (w.heap.size + 1) W1.heap.size (p0 :: r)) := yz ⟨R1.kept (an W1 fwO), wt W1, fun j x e => jN (C1 j x e) (an W1 fwO), ak B1 (an W1 fwO), by omega, by omega, by simp⟩
 generalize W1.alloc fwO = W2 at *
 generalize W1.heap.size = fb at *
 clear R1 B1 C1 hl1
 go_wp2_with fail
 go_loopw [13] (fun i wr => ∃ k : Nat, k ≤ 7 ∧ i = .int .i64 k ∧ Hid (∀ j, j < k → p0 ≠ kT j) ∧ Hid (mg w wr (w.heap.size + 1) fb (p0 :: r))) (fun i _ => 7 - (intOf i).toNat)
 case atStart => exact ⟨0, by omega, rfl, yz (fun j hj => absurd hj (Nat.not_lt_zero _)), HST⟩
 case round =>
  clear HST
  obtain ⟨k, hk, rfl, HF, HST⟩ := hrel
  by_cases hkn : k < 7
  ·have hkn2 : (k : Int) < 7 := by omega
   obtain ⟨tf, e0, e1, e2, hcf, hT⟩ := vN k hkn
   have HT := yz hT
   clear hT
   have c0 := (yy HST).fw.cell (j := k * 3) (by omega)
   have c1 := (yy HST).fw.cell (j := k * 3 + 1) (by omega)
   have c2 := (yy HST).fw.cell (j := k * 3 + 2) (by omega)
   rw [e0] at c0
   rw [e1] at c1
   rw [e2] at c2
   have p1 := (yy HST).wd 0 p0 rfl
   unfold fnV at c1 c2
   unfold co at c0 p1
   clear e0 e1 e2
   obtain ⟨kb, hkb⟩ : ∃ kb : ByteArray, (⟨(kT k).toArray⟩ : ByteArray) = kb := ⟨_, rfl⟩
   obtain ⟨pb, hpb⟩ : ∃ pb : ByteArray, (⟨p0.toArray⟩ : ByteArray) = pb := ⟨_, rfl⟩
   rw [hkb] at c0
   rw [hpb] at p1
   have Z := an wr (.cells #[.string kb, .func (.func tf) #[] #[], .func (.func (bX k)) #[] #[]] 125)
   have HST2 := yz ((yy HST).kept Z)
   have D2 := yz (au wr [.string kb, .func (.func tf) #[] #[], .func (.func (bX k)) #[] #[]] 125)
   have p2 := jN p1 Z
   clear Z HST p1
   go_upto_region 5 with fail
   clear c0 c1 c2
   generalize wr.alloc (.cells #[.string kb, .func (.func tf) #[] #[], .func (.func (bX k)) #[] #[]] 125) = W3 at *
   generalize wr.heap.size = db at *
   have d0 := (yy D2).cell 0 _ rfl
   have hm0 : (0 : Int) < (m : Int) := by omega
   by_cases hq : p0 = kT k
   ·have hb : (kb.toList == pb.toList) = true := by rw [← hkb, ← hpb, hq]; simp
    have d1 := (yy D2).cell 1 _ rfl
    have HLK := yz (yy HLA k hkn hq)
    go_quiet (fail)
    have Zq : Below W3.heap.size W3 (W3.drewN nq) := ⟨rfl, rfl, rfl, Nat.le_refl _, fun _ _ => rfl⟩
    have HST3 := yz ((yy HST2).kept Zq)
    have D3 := yz ((yy D2).kept Zq)
    clear HST2 p2 d0 d1 D2 Zq hb hkb hpb HF HLA HLN
    generalize W3.drewN nq = W4 at HST3 D3 ⊢
    have HRZ : Hid (∀ x ∈ r, x.length ≤ 8000) := yz (fun x hx => by have := yy HSZ x (List.mem_cons_of_mem _ hx); rw [cV] at this; omega)
    obtain ⟨a5, hsl, HRA⟩ : ∃ a5 : Option Addr, (a5 = if m = 1 then some ⟨w.heap.size + 1, 0, none⟩ else some ⟨w.heap.size + 1, 1, none⟩) ∧ Hid (∀ W : World, Below W4.heap.size W4 W → ks W a5 r) := by
     by_cases h1 : m = 1
     ·refine ⟨_, (if_pos h1).symm, yz (fun W hW => .inl ?_)⟩
      have := yy HM
      rw [h1] at this
      simpa using this
     ·refine ⟨_, (if_neg h1).symm, yz (fun W hW => .inr ⟨_, _, rfl, ?_, fun j x e => ?_⟩)⟩
      ·have := (yy HST3).lt2; have := (yy HST3).lt3; have := hW.size; omega
      ·rw [show 1 + j = j + 1 by omega]
       exact jN ((yy HST3).wd (j + 1) x e) hW
    have hrm : r.length = m - 1 := by have := yy HM; simp at this; omega
    have HRM := yz hrm
    go_upto_region 6 with fail
    go_cut [7, 8] (fun ov bv wx => ∃ (ob : Nat) (tb : ByteArray) (nb : Int) (bb : Bool), ov = .pointer (some ⟨ob, 0, none⟩) ∧ bv = .bool bb ∧ Hid (Blk wx ob [.string tb, .int .i64 nb] 90) ∧ Hid (nH s (.returned (.tuple #[.agg #[fnV (bX k), .string tb, .int .i64 nb], .bool bb]))) ∧ Hid (mg w wx (w.heap.size + 1) fb (p0 :: r)) ∧ Hid (Blk wx db [.string kb, .func (.func tf) #[] #[], .func (.func (bX k)) #[] #[]] 125) ∧ w.heap.size < ob)
    case first =>
     have cT : Hid (∀ (W : World) (c : Nat), Below W4.heap.size W4 W → Calls Tryz.prog tf #[.slice a5 (m - 1) c] W fun e w' => dB (lQ k r) e ∧ Below W.heap.size W w') := yz (fun W c hW => by rw [← yy HRM]; exact yy HT W r a5 c (yy HRA W hW) (yy HRZ))
     have hd1 := (yy D3).cell 1 _ rfl
     clear HT HRA HRZ HRM hrm
     by_cases h1 : m = 1
     ·rw [if_pos h1] at hsl
      subst h1 hsl
      refine wp_region_held_drew (S := (fun w' => w'.cell? ⟨db, 1, none⟩ = some (.func (.func tf) #[] #[]))) (by kernel_rfl) ?_ (fun hHeld => ?_)
      ·exact hd1
      refine ac 0 rfl ?_
      try simp only [Act.put, ah, ai, aj]
      refine ac 1 rfl ?_
      try simp only [Act.put, ah, ai, aj]
      refine ac 2 rfl ?_
      try simp only [Act.put, ah, ai, aj]
      refine ac 3 rfl ?_
      try simp only [Act.put, ah, ai, aj]
      have HW := yz ((Below.refl W4.heap.size W4).drew)
      have HD := yz ((yy D3).drewn)
      generalize W4.drew = V at HW HD hHeld ⊢
      refine ag 4 8 rfl (fun K hK => ?_) rfl fun K hK => ?_
      ·skip
       go_simp
       refine (yy cT _ _ (yy HW)).mono ?_
       rintro e V1 ⟨he, hx⟩
       obtain ⟨tb, nb, bb, rfl, hrl⟩ := jI hkn (yy HLK) he
       have HRL := yz hrl
       replace HW := yz (ak (yy HW) hx)
       replace HD := yz ((yy HD).kept hx)
       clear hx he hrl
       refine hK.out _ _ ((yy HD).cell 1 _ rfl) (fun hHeld1 => ?_)
       clear hK K hHeld
       refine ac 5 rfl ?_
       try simp only [Act.put, ah, ai, aj]
       refine ac 6 rfl ?_
       try simp only [Act.put, ah, ai, aj]
       refine ac 7 rfl ?_
       try simp only [Act.put, ah, ai, aj]
       refine af 8 rfl fun K hK => ?_
       go_simp
       have HP := yz (au V1 [.string ⟨#[]⟩, .int .i64 0] 90)
       have hdb : db ≠ V1.heap.size := by have := (yy HD).lt; omega
       have hob2 : W4.heap.size ≤ V1.heap.size := (yy HW).size
       have Zp := an V1 (.cells #[.string ⟨#[]⟩, .int .i64 0] 90)
       replace HW := yz (ak (yy HW) Zp)
       replace HD := yz ((yy HD).kept Zp)
       generalize V1.alloc (.cells #[.string ⟨#[]⟩, .int .i64 0] 90) = U1 at HP HW HD ⊢
       generalize V1.heap.size = ob at HP hdb hob2 ⊢
       clear Zp
       refine hK.out _ _ ((yy HD).cell 1 _ rfl) (fun hHeld2 => ?_)
       clear hK K hHeld1
       refine af 9 rfl fun K hK => ?_
       have r0 := (yy HP).cell 0 _ rfl
       have r1 := (yy HP).cell 1 _ rfl
       have f0 := (yy HP).free 0
       have f1 := (yy HP).free 1
       go_simp
       clear r0 r1 f0 f1
       replace HD := yz (dK (yy HD) hdb 0 (.string tb))
       replace HD := yz (dK (yy HD) hdb 1 (.int .i64 nb))
       refine hK.out _ _ ((yy HD).cell 1 _ rfl) (fun hHeldE => ?_)
       clear hK K
       refine af 10 rfl fun K hK => ?_
       go_simp
       refine hK.out _ _ ((yy HD).cell 1 _ rfl) (fun hHeldF => ?_)
       refine wpAnyH_done (by kernel_rfl) ?_ _
       clear hHeldE hHeldF
       go_wp2_with fail
       go_meet
       exact ⟨ob, tb, nb, bb, rfl, rfl, yz (((yy HP).set 0 _).set 1 _), HRL, yz (((yy HST3).kept (yy HW)).off hob2 (yy HST3).lt3 _ _), HD, by have := (yy HST3).lt1; have := (yy HST3).lt2; have := (yy HST3).lt3; omega⟩
      ·skip
       go_simp
       have HP := yz (au V [.string ⟨#[]⟩, .int .i64 0] 90)
       have hdb : db ≠ V.heap.size := by have := (yy HD).lt; omega
       have hob2 : W4.heap.size ≤ V.heap.size := (yy HW).size
       have Zp := an V (.cells #[.string ⟨#[]⟩, .int .i64 0] 90)
       replace HW := yz (ak (yy HW) Zp)
       replace HD := yz ((yy HD).kept Zp)
       generalize V.alloc (.cells #[.string ⟨#[]⟩, .int .i64 0] 90) = U1 at HP HW HD ⊢
       generalize V.heap.size = ob at HP hdb hob2 ⊢
       clear Zp
       refine hK.out _ _ ((yy HD).cell 1 _ rfl) (fun hHeld1 => ?_)
       clear hK K hHeld
       refine af 4 rfl fun K hK => ?_
       go_simp
       refine (yy cT _ _ (yy HW)).mono ?_
       rintro e V1 ⟨he, hx⟩
       obtain ⟨tb, nb, bb, rfl, hrl⟩ := jI hkn (yy HLK) he
       have HRL := yz hrl
       replace HW := yz (ak (yy HW) hx)
       replace HD := yz ((yy HD).kept hx)
       replace HP := yz ((yy HP).kept hx)
       clear hx he hrl
       refine hK.out _ _ ((yy HD).cell 1 _ rfl) (fun hHeld2 => ?_)
       clear hK K hHeld1
       refine ac 5 rfl ?_
       try simp only [Act.put, ah, ai, aj]
       refine ac 6 rfl ?_
       try simp only [Act.put, ah, ai, aj]
       refine ac 7 rfl ?_
       try simp only [Act.put, ah, ai, aj]
       refine af 9 rfl fun K hK => ?_
       have r0 := (yy HP).cell 0 _ rfl
       have r1 := (yy HP).cell 1 _ rfl
       have f0 := (yy HP).free 0
       have f1 := (yy HP).free 1
       go_simp
       clear r0 r1 f0 f1
       replace HD := yz (dK (yy HD) hdb 0 (.string tb))
       replace HD := yz (dK (yy HD) hdb 1 (.int .i64 nb))
       refine hK.out _ _ ((yy HD).cell 1 _ rfl) (fun hHeldE => ?_)
       clear hK K
       refine af 10 rfl fun K hK => ?_
       go_simp
       refine hK.out _ _ ((yy HD).cell 1 _ rfl) (fun hHeldF => ?_)
       refine wpAnyH_done (by kernel_rfl) ?_ _
       clear hHeldE hHeldF
       go_wp2_with fail
       go_meet
       exact ⟨ob, tb, nb, bb, rfl, rfl, yz (((yy HP).set 0 _).set 1 _), HRL, yz (((yy HST3).kept (yy HW)).off hob2 (yy HST3).lt3 _ _), HD, by have := (yy HST3).lt1; have := (yy HST3).lt2; have := (yy HST3).lt3; omega⟩
     ·rw [if_neg h1] at hsl
      subst hsl
      have h1' : (m : Int) ≠ 1 := by omega
      have h1'' : (1 : Int) ≤ (m : Int) := by omega
      refine wp_region_held_drew (S := (fun w' => w'.cell? ⟨db, 1, none⟩ = some (.func (.func tf) #[] #[]))) (by kernel_rfl) ?_ (fun hHeld => ?_)
      ·exact hd1
      refine ac 0 rfl ?_
      try simp only [Act.put, ah, ai, aj]
      refine ac 1 rfl ?_
      try simp only [Act.put, ah, ai, aj]
      refine ac 2 rfl ?_
      try simp only [Act.put, ah, ai, aj]
      refine ac 3 rfl ?_
      try simp only [Act.put, ah, ai, aj]
      have HW := yz ((Below.refl W4.heap.size W4).drew)
      have HD := yz ((yy D3).drewn)
      generalize W4.drew = V at HW HD hHeld ⊢
      refine ag 4 8 rfl (fun K hK => ?_) rfl fun K hK => ?_
      ·skip
       go_simp
       refine (yy cT _ _ (yy HW)).mono ?_
       rintro e V1 ⟨he, hx⟩
       obtain ⟨tb, nb, bb, rfl, hrl⟩ := jI hkn (yy HLK) he
       have HRL := yz hrl
       replace HW := yz (ak (yy HW) hx)
       replace HD := yz ((yy HD).kept hx)
       clear hx he hrl
       refine hK.out _ _ ((yy HD).cell 1 _ rfl) (fun hHeld1 => ?_)
       clear hK K hHeld
       refine ac 5 rfl ?_
       try simp only [Act.put, ah, ai, aj]
       refine ac 6 rfl ?_
       try simp only [Act.put, ah, ai, aj]
       refine ac 7 rfl ?_
       try simp only [Act.put, ah, ai, aj]
       refine af 8 rfl fun K hK => ?_
       go_simp
       have HP := yz (au V1 [.string ⟨#[]⟩, .int .i64 0] 90)
       have hdb : db ≠ V1.heap.size := by have := (yy HD).lt; omega
       have hob2 : W4.heap.size ≤ V1.heap.size := (yy HW).size
       have Zp := an V1 (.cells #[.string ⟨#[]⟩, .int .i64 0] 90)
       replace HW := yz (ak (yy HW) Zp)
       replace HD := yz ((yy HD).kept Zp)
       generalize V1.alloc (.cells #[.string ⟨#[]⟩, .int .i64 0] 90) = U1 at HP HW HD ⊢
       generalize V1.heap.size = ob at HP hdb hob2 ⊢
       clear Zp
       refine hK.out _ _ ((yy HD).cell 1 _ rfl) (fun hHeld2 => ?_)
       clear hK K hHeld1
       refine af 9 rfl fun K hK => ?_
       have r0 := (yy HP).cell 0 _ rfl
       have r1 := (yy HP).cell 1 _ rfl
       have f0 := (yy HP).free 0
       have f1 := (yy HP).free 1
       go_simp
       clear r0 r1 f0 f1
       replace HD := yz (dK (yy HD) hdb 0 (.string tb))
       replace HD := yz (dK (yy HD) hdb 1 (.int .i64 nb))
       refine hK.out _ _ ((yy HD).cell 1 _ rfl) (fun hHeldE => ?_)
       clear hK K
       refine af 10 rfl fun K hK => ?_
       go_simp
       refine hK.out _ _ ((yy HD).cell 1 _ rfl) (fun hHeldF => ?_)
       refine wpAnyH_done (by kernel_rfl) ?_ _
       clear hHeldE hHeldF
       go_wp2_with fail
       go_meet
       exact ⟨ob, tb, nb, bb, rfl, rfl, yz (((yy HP).set 0 _).set 1 _), HRL, yz (((yy HST3).kept (yy HW)).off hob2 (yy HST3).lt3 _ _), HD, by have := (yy HST3).lt1; have := (yy HST3).lt2; have := (yy HST3).lt3; omega⟩
      ·skip
       go_simp
       have HP := yz (au V [.string ⟨#[]⟩, .int .i64 0] 90)
       have hdb : db ≠ V.heap.size := by have := (yy HD).lt; omega
       have hob2 : W4.heap.size ≤ V.heap.size := (yy HW).size
       have Zp := an V (.cells #[.string ⟨#[]⟩, .int .i64 0] 90)
       replace HW := yz (ak (yy HW) Zp)
       replace HD := yz ((yy HD).kept Zp)
       generalize V.alloc (.cells #[.string ⟨#[]⟩, .int .i64 0] 90) = U1 at HP HW HD ⊢
       generalize V.heap.size = ob at HP hdb hob2 ⊢
       clear Zp
       refine hK.out _ _ ((yy HD).cell 1 _ rfl) (fun hHeld1 => ?_)
       clear hK K hHeld
       refine af 4 rfl fun K hK => ?_
       go_simp
       refine (yy cT _ _ (yy HW)).mono ?_
       rintro e V1 ⟨he, hx⟩
       obtain ⟨tb, nb, bb, rfl, hrl⟩ := jI hkn (yy HLK) he
       have HRL := yz hrl
       replace HW := yz (ak (yy HW) hx)
       replace HD := yz ((yy HD).kept hx)
       replace HP := yz ((yy HP).kept hx)
       clear hx he hrl
       refine hK.out _ _ ((yy HD).cell 1 _ rfl) (fun hHeld2 => ?_)
       clear hK K hHeld1
       refine ac 5 rfl ?_
       try simp only [Act.put, ah, ai, aj]
       refine ac 6 rfl ?_
       try simp only [Act.put, ah, ai, aj]
       refine ac 7 rfl ?_
       try simp only [Act.put, ah, ai, aj]
       refine af 9 rfl fun K hK => ?_
       have r0 := (yy HP).cell 0 _ rfl
       have r1 := (yy HP).cell 1 _ rfl
       have f0 := (yy HP).free 0
       have f1 := (yy HP).free 1
       go_simp
       clear r0 r1 f0 f1
       replace HD := yz (dK (yy HD) hdb 0 (.string tb))
       replace HD := yz (dK (yy HD) hdb 1 (.int .i64 nb))
       refine hK.out _ _ ((yy HD).cell 1 _ rfl) (fun hHeldE => ?_)
       clear hK K
       refine af 10 rfl fun K hK => ?_
       go_simp
       refine hK.out _ _ ((yy HD).cell 1 _ rfl) (fun hHeldF => ?_)
       refine wpAnyH_done (by kernel_rfl) ?_ _
       clear hHeldE hHeldF
       go_wp2_with fail
       go_meet
       exact ⟨ob, tb, nb, bb, rfl, rfl, yz (((yy HP).set 0 _).set 1 _), HRL, yz (((yy HST3).kept (yy HW)).off hob2 (yy HST3).lt3 _ _), HD, by have := (yy HST3).lt1; have := (yy HST3).lt2; have := (yy HST3).lt3; omega⟩
    case rest =>
     obtain ⟨ob, tb, nb, bb, rfl, rfl, HOB, HRL, HST5, HD5, hob⟩ := hcut
     have q0 := (yy HOB).cell 0 _ rfl
     have q1 := (yy HOB).cell 1 _ rfl
     have d2 := (yy HD5).cell 2 _ rfl
     have r0 := (yy HST5).out.cell 0 _ rfl
     have r1 := (yy HST5).out.cell 1 _ rfl
     have r2 := (yy HST5).out.cell 2 _ rfl
     have f0 := (yy HST5).out.free 0
     have f1 := (yy HST5).out.free 1
     have f2 := (yy HST5).out.free 2
     go_wp2_with fail
     refine bodyPost_ret (v := .tuple #[.agg #[fnV (bX k), .string tb, .int .i64 nb], .bool bb]) ?_ rfl ⟨yy HRL, ?_⟩
     ·simp [results, Tryz.results40, go_sem, r0, r1, r2, fnV]
     ·iterate 3 (refine Below.setCell ?_ (Nat.le_refl w.heap.size) _)
      exact (yy HST5).bel
   ·have hb : (kb.toList == pb.toList) = false := uy (by rw [← hkb, ← hpb]; exact fun e => hq (by have := congrArg (fun b : ByteArray => b.data.toList) e; simpa using this.symm))
    have HF2 : Hid (∀ j, j < k + 1 → p0 ≠ kT j) := yz (fun j hj => by
     by_cases e : j = k
     ·rw [e]; exact hq
     ·exact yy HF j (by omega))
    go_quiet (fail)
    have HST3 := yz ((yy HST2).kept (⟨rfl, rfl, rfl, Nat.le_refl _, fun _ _ => rfl⟩ : Below W3.heap.size W3 (W3.drewN nq)))
    clear HST2 p2 d0 D2
    generalize W3.drewN nq = W4 at HST3 ⊢
    go_wp2_with fail
    go_roundw
    case rel => exact ⟨k + 1, by omega, by go_num, HF2, HST3⟩
    case measure => simp [intOf]; omega
  ·have hke : k = 7 := by omega
   subst hke
   have HR : Hid (nH s (.returned (.tuple #[.agg #[.nilFunc, .string ⟨#[]⟩, .int .i64 0], .bool false]))) := yz (.inr ⟨yy HLN (yy HF), _, _, _, .inl rfl, rfl⟩)
   have r0 := (yy HST).out.cell 0 _ rfl
   have r1 := (yy HST).out.cell 1 _ rfl
   have r2 := (yy HST).out.cell 2 _ rfl
   have f0 := (yy HST).out.free 0
   have f1 := (yy HST).out.free 1
   have f2 := (yy HST).out.free 2
   go_wp2
   refine bodyPost_ret (v := .tuple #[.agg #[.nilFunc, .string ⟨#[]⟩, .int .i64 0], .bool false]) ?_ rfl ⟨yy HR, ?_⟩
   ·simp [results, Tryz.results40, go_sem, r0, r1, r2]
   ·iterate 3 (refine Below.setCell ?_ (Nat.le_refl w.heap.size) _)
    exact (yy HST).bel
def lnC (l : Ln) : List Value := [fnV (bX l.k), co l.t, .int .i64 l.n]
def dp (L : List Ln) : List Value := L.flatMap lnC
theorem ou (L : List Ln) (l : Ln) : dp (L ++ [l]) = dp L ++ lnC l := by unfold dp; rw [List.flatMap_append]; simp
def fA (s : ByteArray) : List Ln ⊕ Nat := eO 0 (pcs 10 s.data.toList)
def cg (s : ByteArray) : List Ln := if 8000 < s.size then [] else match fA s with | .inl ls => ls | .inr _ => []
def dO (s : ByteArray) : Int := if 8000 < s.size then 0 else match fA s with | .inl _ => 0 | .inr i => (i : Int)
def dn (s : ByteArray) : Int := if 8000 < s.size then 2 else match fA s with | .inl _ => 0 | .inr _ => 3
def vn (s : ByteArray) (w' : World) (B : Nat) (e : Ending) : Prop := ∃ v, e = .returned (.tuple #[v, .agg #[.string ⟨#[]⟩, .int .i64 (dO s), .int .i64 (dn s)]]) ∧ w'.ownsRow B 92 3 v (cg s).length (dp (cg s))
def eq (s : ByteArray) (done : List Ln) (rem : List UInt8) : Prop := fA s = match eO done.length (pcs 10 rem) with | .inl ls => .inl (done ++ ls) | .inr j => .inr j
theorem sn {s : ByteArray} {done : List Ln} (h : eq s done []) : fA s = .inl done := by
 unfold eq at h
 rw [h]
 show Sum.inl (done ++ []) = _
 rw [List.append_nil]
theorem gw (i : Nat) (a : List UInt8) (b : List UInt8) : eO i (a :: pcs 10 b) = match eL a with | none => .inr i | some l => if 40 ≤ i then .inr i else match eO (i + 1) (pcs 10 b) with | .inl ls => .inl (l :: ls) | .inr j => .inr j := by
 cases h : pcs 10 b with
 | nil => exact absurd h (lc _ _)
 | cons q r => rfl
theorem sO {s : ByteArray} {done : List Ln} {a b : List UInt8} (ha : 10 ∉ a) (h : eq s done (a ++ 10 :: b)) (hl : eL a = none) : fA s = .inr done.length := by
 unfold eq at h
 rw [ig ha, gw, hl] at h
 exact h
theorem rn {s : ByteArray} {done : List Ln} {a b : List UInt8} {l : Ln} (ha : 10 ∉ a) (h : eq s done (a ++ 10 :: b)) (hl : eL a = some l) (h40 : 40 ≤ done.length) : fA s = .inr done.length := by
 unfold eq at h
 rw [ig ha, gw, hl] at h
 dsimp only at h
 rw [if_pos h40] at h
 exact h
theorem qZ {s : ByteArray} {done : List Ln} {a : List UInt8} (ha : 10 ∉ a) (hn : a ≠ []) (h : eq s done a) : fA s = .inr done.length := by
 unfold eq at h
 rw [kJ ha] at h
 have e : eO done.length [a] = .inr done.length := by show (if a = [] then _ else _) = _; rw [if_neg hn]
 rw [e] at h
 exact h
theorem ru {s : ByteArray} {done : List Ln} {a b : List UInt8} {l : Ln} (ha : 10 ∉ a) (h : eq s done (a ++ 10 :: b)) (hl : eL a = some l) (h40 : ¬ 40 ≤ done.length) : eq s (done ++ [l]) b := by
 unfold eq at h ⊢
 rw [ig ha, gw, hl] at h
 dsimp only at h
 rw [if_neg h40] at h
 rw [h, show (done ++ [l]).length = done.length + 1 by simp]
 cases eO (done.length + 1) (pcs 10 b) with
 | inl ls => simp
 | inr j => rfl
theorem tV {s : ByteArray} (hs : ¬ 8000 < s.size) {i : Nat} (h : fA s = .inr i) : cg s = [] ∧ dO s = (i : Int) ∧ dn s = 3 := by
 unfold cg dO dn
 rw [if_neg hs, if_neg hs, if_neg hs, h]
 exact ⟨rfl, rfl, rfl⟩
theorem uE {s : ByteArray} (hs : ¬ 8000 < s.size) {L : List Ln} (h : fA s = .inl L) : cg s = L ∧ dO s = 0 ∧ dn s = 0 := by
 unfold cg dO dn
 rw [if_neg hs, if_neg hs, if_neg hs, h]
 exact ⟨rfl, rfl, rfl⟩
theorem vT {s : ByteArray} (hs : 8000 < s.size) : cg s = [] ∧ dO s = 0 ∧ dn s = 2 := by
 unfold cg dO dn
 rw [if_pos hs, if_pos hs, if_pos hs]
 exact ⟨rfl, rfl, rfl⟩
def vZ : Value → Nat
 | .string b => b.size
 | _ => 0
theorem ub : ∃ i : TypeInfo, Tryz.prog.info? 92 = some i ∧ i.zero = some (.agg #[.nilFunc, .string ⟨#[]⟩, .int .i64 0]) ∧ i.size = 3 ∧ i.bytes = 32 := by
 have h : (Tryz.prog.info? 92).map (fun i => (i.zero, i.size, i.bytes)) = some (some (.agg #[.nilFunc, .string ⟨#[]⟩, .int .i64 0]), 3, 32) := by kernel_rfl
 cases hi : Tryz.prog.info? 92 with
 | none => rw [hi] at h; cases h
 | some i =>
  rw [hi] at h
  have := Option.some.inj h
  simp only [Prod.mk.injEq] at this
  exact ⟨i, rfl, this.1, this.2.1, this.2.2⟩
theorem gx (T : Array Value) (X : World) (b : Nat) (v : Value) (n c : Int) (hT2 : T.getD 2 undef = v) (hT : T.getD 3 undef = .pointer (some ⟨b, 0, none⟩)) (h : Blk X b [.string ⟨#[]⟩, .int .i64 n, .int .i64 c] 25) : (results Tryz.f22 T).run Tryz.prog X = .ok (.tuple #[v, .agg #[.string ⟨#[]⟩, .int .i64 n, .int .i64 c]]) X := by
 obtain ⟨h0, h1, h2⟩ := jD (h)
 simp only [Array.getD_eq_getD_getElem?] at hT hT2
 simp [results, Tryz.results22, go_sem, hT, hT2, h0, h1, h2]
theorem tX {w : World} {B n m b : Nat} {t : TypeId} {v : Value} {xs : List Value} (h : w.ownsRow B t m v n xs) (hb : b < B) (o : Nat) (x : Value) : (w.setCell ⟨b, o, none⟩ x).ownsRow B t m v n xs := by
 obtain ⟨h1, h2⟩ := h
 refine ⟨h1, ?_⟩
 rcases h2 with h2 | ⟨g, c', cur, e, hg, hh, r⟩
 ·exact .inl h2
 ·exact .inr ⟨g, c', cur, e, hg, by rw [Below.heap_setCell w ⟨b, o, none⟩ x g (by show g ≠ b; omega)]; exact hh, r⟩
theorem iM (w : World) (vs : List Value) (t : TypeId) : ∀ (j : Nat) (u : Value), vs[j]? = some u → (w.alloc (.cells vs.toArray t)).cell? ((⟨w.heap.size, 0, none⟩ : Addr).add j) = some u := by
 intro j u hj
 have e : (⟨w.heap.size, 0, none⟩ : Addr).add j = ⟨w.heap.size, j, none⟩ := by cases j <;> simp [Addr.add]
 rw [e]
 simp [hj]
structure qM (w wr : World) (v : Value) (done : List Ln) : Prop where
 out : Blk wr w.heap.size [.string ⟨#[]⟩, .int .i64 0, .int .i64 0] 25
 row : wr.ownsRow (w.heap.size + 1) 92 3 v done.length (dp done)
 bel : Below w.heap.size w wr
 low : w.heap.size + 1 ≤ wr.heap.size
theorem qM.kept {w w1 w2 : World} {v : Value} {done : List Ln} (h : qM w w1 v done) (hx : Below w1.heap.size w1 w2) : qM w w2 v done :=
 ⟨h.out.kept hx, rT h.row hx, ak h.bel hx, Nat.le_trans h.low hx.size⟩
theorem mf (s : ByteArray) (w : World) (hs : s.size ≤ 1048576) (hm : kE w) :
  Calls Tryz.prog 22 #[.string s] w fun e w' => vn s w' w.heap.size e ∧ Below w.heap.size w w' := by
 have B0 := an w (.cells #[.string ⟨#[]⟩, .int .i64 0, .int .i64 0] 25)
 have R0 := au w [.string ⟨#[]⟩, .int .i64 0, .int .i64 0] 25
 have HM := yz hm
 clear hm
 by_cases hb : 8000 < s.size
 ·have hb' : (8000 : Int) < (s.size : Int) := by omega
  have HO := yz (vT hb)
  go_enter Tryz.func22, Tryz.ntmps22
  go_wp2
  refine bodyPost_ret (v := .tuple #[.slice none 0 0, .agg #[.string ⟨#[]⟩, .int .i64 0, .int .i64 2]]) ?_ rfl ⟨⟨_, by rw [(yy HO).2.1, (yy HO).2.2], by rw [(yy HO).1]; exact World.ownsRow_nil _ _ _ _⟩, an _ _⟩
  ·simp [results, Tryz.results22, go_sem]
 have hb' : ¬ (8000 : Int) < (s.size : Int) := by omega
 have HG := yz (fun L h => uE (s := s) hb (L := L) h)
 have HFT := yz (fun i h => tV (s := s) hb (i := i) h)
 have HST : Hid (qM w (w.alloc (.cells #[.string ⟨#[]⟩, .int .i64 0, .int .i64 0] 25)) (.slice none 0 0) []) := yz ⟨R0, World.ownsRow_nil _ _ _ _, B0, by simp⟩
 have HP : Hid (eq s [] s.data.toList) := yz (by unfold eq fA; rw [show ([] : List Ln).length = 0 from rfl]; cases eO 0 (pcs 10 s.data.toList) <;> rfl)
 obtain ⟨i0, hinf, hz0, hz1, hz2⟩ := ub
 have hm8 : 10000 ≤ maxLen := by decide +kernel
 clear B0 R0
 go_enter Tryz.func22, Tryz.ntmps22
 go_wp2_with fail
 generalize w.alloc (.cells #[.string ⟨#[]⟩, .int .i64 0, .int .i64 0] 25) = W0 at *
 go_loopw [0, 4] (fun t v wr => ∃ (rem : ByteArray) (done : List Ln), t = .string rem ∧ rem.size ≤ 8000 ∧ done.length ≤ 40 ∧ Hid (eq s done rem.data.toList) ∧ Hid (qM w wr v done)) (fun t _ _ => vZ t)
 case atStart => exact ⟨s, [], rfl, by omega, by simp, HP, HST⟩
 case round =>
  clear HP HST
  obtain ⟨rem, done, rfl, hrs, hd40, HP, HST⟩ := hrel
  obtain ⟨a4, c4, rfl⟩ : ∃ a4 c4, u4 = .slice a4 done.length c4 := by
   rcases (yy HST).row.2 with ⟨h1, h0⟩ | ⟨g, c', cur, e, _⟩
   ·exact ⟨none, 0, by rw [h1, h0]⟩
   ·exact ⟨_, _, e⟩
  by_cases hr0 : rem = ⟨#[]⟩
  ·subst hr0
   have HR := yz (yy HG done (sn (yy HP)))
   have r0 := (yy HST).out.cell 0 _ rfl
   have r1 := (yy HST).out.cell 1 _ rfl
   have r2 := (yy HST).out.cell 2 _ rfl
   have f0 := (yy HST).out.free 0
   have f1 := (yy HST).out.free 1
   have f2 := (yy HST).out.free 2
   go_wp2
   refine bodyPost_ret (v := .tuple #[.slice a4 done.length c4, .agg #[.string ⟨#[]⟩, .int .i64 0, .int .i64 0]]) ?_ rfl ⟨⟨_, by rw [(yy HR).2.1, (yy HR).2.2], ?_⟩, ?_⟩
   ·refine gx _ _ w.heap.size _ _ _ rfl rfl ?_
    exact (((yy HST).out.set 0 _).set 1 _).set 2 _
   ·rw [(yy HR).1]
    refine td (B := w.heap.size + 1) ?_ (by omega)
    iterate 3 (refine tX ?_ (Nat.lt_succ_self w.heap.size) _ _)
    exact (yy HST).row
   ·iterate 3 (refine Below.setCell ?_ (Nat.le_refl w.heap.size) _)
    exact (yy HST).bel
  ·have hne : (rem.toList == []) = false := mA (l := []) hr0
   have hne2 : rem.data.toList ≠ [] := fun e => hr0 (ByteArray.ext (by have := congrArg List.toArray e; simpa using this))
   obtain ⟨n, hn⟩ : ∃ n, done.length = n := ⟨_, rfl⟩
   have HN := yz hn
   rw [hn] at hd40 ⊢
   clear hn
   have cC := yz (uO rem 10 wr hrs ((yy HM).kept (yy HST).bel))
   by_cases h10 : (10 : UInt8) ∈ rem.data.toList
   ·obtain ⟨a, b, hab, ha⟩ := kQ h10
    rw [hab] at HP
    rw [hab, uq ha] at cC
    dsimp only at cC
    have hsz : a.length + 1 + b.length = rem.size := by rw [← cV, hab]; simp; omega
    obtain ⟨ab, hab2⟩ : ∃ ab : ByteArray, (⟨a.toArray⟩ : ByteArray) = ab := ⟨_, rfl⟩
    obtain ⟨bb, hbb⟩ : ∃ bb : ByteArray, (⟨b.toArray⟩ : ByteArray) = bb := ⟨_, rfl⟩
    have hA : ab.data.toList = a := by rw [← hab2]
    have hBB : bb.data.toList = b := by rw [← hbb]
    have has : ab.size ≤ 8000 := by rw [← cV, hA]; omega
    have hbs : bb.size < rem.size := by rw [← cV, hBB]; omega
    unfold co at cC
    rw [hab2, hbb] at cC
    have HA := yz hA
    have HBB := yz hBB
    clear hab hab2 hbb hsz h10 hA hBB hne2
    go_wp2_with fail
    refine (yy cC).mono ?_
    rintro e W1 ⟨rfl, hx⟩
    have HST1 := yz ((yy HST).kept hx)
    clear hx HST cC
    have cR := yz (gQ ab W1 has ((yy HM).kept (yy HST1).bel))
    go_wp2_with fail
    refine (yy cR).mono ?_
    rintro e W2 ⟨he, hx⟩
    have HST2 := yz ((yy HST1).kept hx)
    clear hx HST1 cR
    unfold nH at he
    rw [yy HA] at he
    rcases he with ⟨l, hl, hlk, rfl⟩ | ⟨hl, f, t, nn, hf, rfl⟩
    ·obtain ⟨tb, htb⟩ : ∃ tb : ByteArray, (⟨l.t.toArray⟩ : ByteArray) = tb := ⟨_, rfl⟩
     have HTB : Hid (lnC l = [.func (.func (bX l.k)) #[] #[], .string tb, .int .i64 l.n]) := yz (by unfold lnC co fnV; rw [htb])
     unfold co fnV
     rw [htb]
     obtain ⟨ln, hln⟩ : ∃ ln, l.n = ln := ⟨_, rfl⟩
     obtain ⟨df, hdf⟩ : ∃ df, bX l.k = df := ⟨_, rfl⟩
     rw [hln, hdf] at HTB ⊢
     clear htb hln hdf
     have Z := an W2 (.cells #[.func (.func df) #[] #[], .string tb, .int .i64 ln] 92)
     have HST3 := yz ((yy HST2).kept Z)
     have D3 := yz (au W2 [.func (.func df) #[] #[], .string tb, .int .i64 ln] 92)
     clear Z HST2
     go_upto_region 7 with fail
     generalize W2.alloc (.cells #[.func (.func df) #[] #[], .string tb, .int .i64 ln] 92) = W3 at *
     generalize W2.heap.size = lb at *
     by_cases h40 : n = 40
     ·subst h40
      have HR := yz (yy HFT done.length (rn ha (yy HP) hl (by rw [yy HN]; omega)))
      rw [yy HN] at HR
      have r0 := (yy HST3).out.cell 0 _ rfl
      have r1 := (yy HST3).out.cell 1 _ rfl
      have r2 := (yy HST3).out.cell 2 _ rfl
      have f0 := (yy HST3).out.free 0
      have f1 := (yy HST3).out.free 1
      have f2 := (yy HST3).out.free 2
      go_wp2
      refine bodyPost_ret (v := .tuple #[.slice none 0 0, .agg #[.string ⟨#[]⟩, .int .i64 40, .int .i64 3]]) ?_ rfl ⟨⟨_, by rw [(yy HR).2.1, (yy HR).2.2]; rfl, by rw [(yy HR).1]; exact World.ownsRow_nil _ _ _ _⟩, ?_⟩
      ·refine gx _ _ w.heap.size _ _ _ rfl rfl ?_
       exact (((yy HST3).out.set 0 _).set 1 _).set 2 _
      ·iterate 3 (refine Below.setCell ?_ (Nat.le_refl w.heap.size) _)
       exact (yy HST3).bel
     ·have h40' : ((n : Int) == 40) = false := by simpa using (show (n : Int) ≠ 40 by omega)
      have HP2 : Hid (eq s (done ++ [l]) bb.data.toList) := yz (by rw [yy HBB]; exact ru ha (yy HP) hl (by rw [yy HN]; omega))
      obtain ⟨d0, d1, d2⟩ := jD (yy D3)
      have Z1 := an W3 (.cells #[.func (.func df) #[] #[], .string tb, .int .i64 ln] 92)
      have ST4 := (yy HST3).kept Z1
      have hown := ST4.row
      rw [yy HN] at hown
      clear Z1 HST3 HP
      go_wp2_with (at_builtin; refine wpList_append_own _ rfl _ _ 57 rfl (w.heap.size + 1) 92 i0 (.agg #[.nilFunc, .string ⟨#[]⟩, .int .i64 0]) 3 32 Tryz.underlying57 hinf hz0 hz1 hz2 rfl (by decide) _ _ _ rfl hown ⟨W3.heap.size, 0, none⟩ 1 1 [.func (.func df) #[] #[], .string tb, .int .i64 ln] rfl rfl ?d2 (fun u hu => by simp at hu; rcases hu with rfl | rfl | rfl <;> rfl) ?d3 ?d4 ?d5 ?_)
      case d2 => exact iM _ _ _
      case d3 => omega
      case d4 => omega
      case d5 => exact ST4.low
      intro v7 V7 hown7 hgrow7 _
      have HST7 : Hid (qM w V7 v7 (done ++ [l])) := yz ⟨(hgrow7.block w.heap.size ST4.out.lt (fun e => by have := (hown.lt _ e.symm).1; omega)).trans ST4.out, by rw [ou, yy HTB, List.length_append, yy HN]; exact hown7, tj ST4.bel hgrow7 (by have := ST4.low; omega) (fun g e => by have := (hown.lt _ e).1; omega), Nat.le_trans ST4.low hgrow7.size⟩
      clear hown7 hgrow7 hown ST4 d0 d1 d2 D3
      go_wp2_with fail
      go_roundw
      case rel => exact ⟨bb, done ++ [l], rfl, by omega, by rw [List.length_append, yy HN]; show n + 1 ≤ 40; omega, HP2, HST7⟩
      case measure => show bb.size < rem.size; exact hbs
    ·have HR := yz (yy HFT done.length (sO ha (yy HP) hl))
     rw [yy HN] at HR
     rcases hf with rfl | ⟨x, rfl⟩
     ·skip
      have Z := an W2 (.cells #[.nilFunc, .string t, .int .i64 nn] 92)
      have HST3 := yz ((yy HST2).kept Z)
      clear Z HST2
      go_upto_region 7 with fail
      generalize W2.alloc (.cells #[.nilFunc, .string t, .int .i64 nn] 92) = W3 at *
      generalize W2.heap.size = lb at *
      have r0 := (yy HST3).out.cell 0 _ rfl
      have r1 := (yy HST3).out.cell 1 _ rfl
      have r2 := (yy HST3).out.cell 2 _ rfl
      have f0 := (yy HST3).out.free 0
      have f1 := (yy HST3).out.free 1
      have f2 := (yy HST3).out.free 2
      go_wp2
      refine bodyPost_ret (v := .tuple #[.slice none 0 0, .agg #[.string ⟨#[]⟩, .int .i64 n, .int .i64 3]]) ?_ rfl ⟨⟨_, by rw [(yy HR).2.1, (yy HR).2.2], by rw [(yy HR).1]; exact World.ownsRow_nil _ _ _ _⟩, ?_⟩
      ·refine gx _ _ w.heap.size _ _ _ rfl rfl ?_
       exact (((yy HST3).out.set 0 _).set 1 _).set 2 _
      ·iterate 3 (refine Below.setCell ?_ (Nat.le_refl w.heap.size) _)
       exact (yy HST3).bel
     ·unfold fnV
      have Z := an W2 (.cells #[.func (.func x) #[] #[], .string t, .int .i64 nn] 92)
      have HST3 := yz ((yy HST2).kept Z)
      clear Z HST2
      go_upto_region 7 with fail
      generalize W2.alloc (.cells #[.func (.func x) #[] #[], .string t, .int .i64 nn] 92) = W3 at *
      generalize W2.heap.size = lb at *
      have r0 := (yy HST3).out.cell 0 _ rfl
      have r1 := (yy HST3).out.cell 1 _ rfl
      have r2 := (yy HST3).out.cell 2 _ rfl
      have f0 := (yy HST3).out.free 0
      have f1 := (yy HST3).out.free 1
      have f2 := (yy HST3).out.free 2
      go_wp2
      refine bodyPost_ret (v := .tuple #[.slice none 0 0, .agg #[.string ⟨#[]⟩, .int .i64 n, .int .i64 3]]) ?_ rfl ⟨⟨_, by rw [(yy HR).2.1, (yy HR).2.2], by rw [(yy HR).1]; exact World.ownsRow_nil _ _ _ _⟩, ?_⟩
      ·refine gx _ _ w.heap.size _ _ _ rfl rfl ?_
       exact (((yy HST3).out.set 0 _).set 1 _).set 2 _
      ·iterate 3 (refine Below.setCell ?_ (Nat.le_refl w.heap.size) _)
       exact (yy HST3).bel
   ·have HR := yz (yy HFT done.length (qZ h10 hne2 (yy HP)))
    rw [yy HN] at HR
    rw [tM h10] at cC
    dsimp only at cC
    unfold co at cC
    rw [show (⟨rem.data.toList.toArray⟩ : ByteArray) = rem from ByteArray.ext (by simp)] at cC
    clear HP HFT HG
    go_wp2_with fail
    refine (yy cC).mono ?_
    rintro e W1 ⟨rfl, hx⟩
    have HST1 := yz ((yy HST).kept hx)
    clear hx HST cC
    have cR := yz (gQ rem W1 hrs ((yy HM).kept (yy HST1).bel))
    go_wp2_with fail
    refine (yy cR).mono ?_
    rintro e W2 ⟨he, hx⟩
    have HST2 := yz ((yy HST1).kept hx)
    clear hx HST1 cR
    rcases he with ⟨l, hl, hlk, rfl⟩ | ⟨hl, f, t, nn, hf, rfl⟩
    ·obtain ⟨t, ht⟩ : ∃ tb : ByteArray, (⟨l.t.toArray⟩ : ByteArray) = tb := ⟨_, rfl⟩
     unfold co fnV
     rw [ht]
     obtain ⟨nn, hln⟩ : ∃ ln, l.n = ln := ⟨_, rfl⟩
     obtain ⟨df, hdf⟩ : ∃ df, bX l.k = df := ⟨_, rfl⟩
     rw [hln, hdf]
     clear ht hln hdf
     have Z := an W2 (.cells #[.func (.func df) #[] #[], .string t, .int .i64 nn] 92)
     have HST3 := yz ((yy HST2).kept Z)
     clear Z HST2
     go_upto_region 7 with fail
     generalize W2.alloc (.cells #[.func (.func df) #[] #[], .string t, .int .i64 nn] 92) = W3 at *
     generalize W2.heap.size = lb at *
     have r0 := (yy HST3).out.cell 0 _ rfl
     have r1 := (yy HST3).out.cell 1 _ rfl
     have r2 := (yy HST3).out.cell 2 _ rfl
     have f0 := (yy HST3).out.free 0
     have f1 := (yy HST3).out.free 1
     have f2 := (yy HST3).out.free 2
     go_wp2
     refine bodyPost_ret (v := .tuple #[.slice none 0 0, .agg #[.string ⟨#[]⟩, .int .i64 n, .int .i64 3]]) ?_ rfl ⟨⟨_, by rw [(yy HR).2.1, (yy HR).2.2], by rw [(yy HR).1]; exact World.ownsRow_nil _ _ _ _⟩, ?_⟩
     ·refine gx _ _ w.heap.size _ _ _ rfl rfl ?_
      exact (((yy HST3).out.set 0 _).set 1 _).set 2 _
     ·iterate 3 (refine Below.setCell ?_ (Nat.le_refl w.heap.size) _)
      exact (yy HST3).bel
    ·rcases hf with rfl | ⟨x, rfl⟩
     ·skip
      have Z := an W2 (.cells #[.nilFunc, .string t, .int .i64 nn] 92)
      have HST3 := yz ((yy HST2).kept Z)
      clear Z HST2
      go_upto_region 7 with fail
      generalize W2.alloc (.cells #[.nilFunc, .string t, .int .i64 nn] 92) = W3 at *
      generalize W2.heap.size = lb at *
      have r0 := (yy HST3).out.cell 0 _ rfl
      have r1 := (yy HST3).out.cell 1 _ rfl
      have r2 := (yy HST3).out.cell 2 _ rfl
      have f0 := (yy HST3).out.free 0
      have f1 := (yy HST3).out.free 1
      have f2 := (yy HST3).out.free 2
      go_wp2
      refine bodyPost_ret (v := .tuple #[.slice none 0 0, .agg #[.string ⟨#[]⟩, .int .i64 n, .int .i64 3]]) ?_ rfl ⟨⟨_, by rw [(yy HR).2.1, (yy HR).2.2], by rw [(yy HR).1]; exact World.ownsRow_nil _ _ _ _⟩, ?_⟩
      ·refine gx _ _ w.heap.size _ _ _ rfl rfl ?_
       exact (((yy HST3).out.set 0 _).set 1 _).set 2 _
      ·iterate 3 (refine Below.setCell ?_ (Nat.le_refl w.heap.size) _)
       exact (yy HST3).bel
     ·unfold fnV
      have Z := an W2 (.cells #[.func (.func x) #[] #[], .string t, .int .i64 nn] 92)
      have HST3 := yz ((yy HST2).kept Z)
      clear Z HST2
      go_upto_region 7 with fail
      generalize W2.alloc (.cells #[.func (.func x) #[] #[], .string t, .int .i64 nn] 92) = W3 at *
      generalize W2.heap.size = lb at *
      have r0 := (yy HST3).out.cell 0 _ rfl
      have r1 := (yy HST3).out.cell 1 _ rfl
      have r2 := (yy HST3).out.cell 2 _ rfl
      have f0 := (yy HST3).out.free 0
      have f1 := (yy HST3).out.free 1
      have f2 := (yy HST3).out.free 2
      go_wp2
      refine bodyPost_ret (v := .tuple #[.slice none 0 0, .agg #[.string ⟨#[]⟩, .int .i64 n, .int .i64 3]]) ?_ rfl ⟨⟨_, by rw [(yy HR).2.1, (yy HR).2.2], by rw [(yy HR).1]; exact World.ownsRow_nil _ _ _ _⟩, ?_⟩
      ·refine gx _ _ w.heap.size _ _ _ rfl rfl ?_
       exact (((yy HST3).out.set 0 _).set 1 _).set 2 _
      ·iterate 3 (refine Below.setCell ?_ (Nat.le_refl w.heap.size) _)
       exact (yy HST3).bel
end
section
open Go.RowKit
def jl : List St := [(1, 0, 0, 1), (2, 1, 0, 2), (3, 0, 1, 3), (4, -1, -1, 2), (5, 2, 1, 5), (6, 1, 0, 0)]
def vj : List Int := [1, 0, 0, 1, 2, 1, 0, 2, 3, 0, 1, 3, 4, -1, -1, 2, 5, 2, 1, 5, 6, 1, 0, 0]
def fB : Obj := .cells #[.int .i64 1, .int .i64 0, .int .i64 0, .int .i64 1, .int .i64 2, .int .i64 1, .int .i64 0, .int .i64 2, .int .i64 3, .int .i64 0, .int .i64 1, .int .i64 3, .int .i64 4, .int .i64 (-1), .int .i64 (-1), .int .i64 2, .int .i64 5, .int .i64 2, .int .i64 1, .int .i64 5, .int .i64 6, .int .i64 1, .int .i64 0, .int .i64 0] 74
theorem vh (w : World) : cb (w.alloc fB) 74 w.heap.size (6 * 4) (fun j => vj.getD j 0) := by
 refine ⟨_, heap_alloc_new w fB, fun j hj => ?_⟩
 match j, hj with
 | 0, _ => rfl
 | 1, _ => rfl
 | 2, _ => rfl
 | 3, _ => rfl
 | 4, _ => rfl
 | 5, _ => rfl
 | 6, _ => rfl
 | 7, _ => rfl
 | 8, _ => rfl
 | 9, _ => rfl
 | 10, _ => rfl
 | 11, _ => rfl
 | 12, _ => rfl
 | 13, _ => rfl
 | 14, _ => rfl
 | 15, _ => rfl
 | 16, _ => rfl
 | 17, _ => rfl
 | 18, _ => rfl
 | 19, _ => rfl
 | 20, _ => rfl
 | 21, _ => rfl
 | 22, _ => rfl
 | 23, _ => rfl
 | k + 24, h => exact absurd h (by omega)
theorem rv {w : World} {g : Nat} (h : cb w 74 g (6 * 4) (fun j => vj.getD j 0)) : aL w (some ⟨g, 0, none⟩) jl 6 := by
 refine .inr ⟨g, 0, rfl, h.lt, fun i hi => ?_⟩
 rw [Nat.zero_add]
 refine ⟨?_, ?_, ?_, ?_⟩
 ·rw [h.cell (j := i * 4) (by omega)]
  match i, hi with
  | 0, _ | 1, _ | 2, _ | 3, _ | 4, _ | 5, _ => rfl
 ·rw [h.cell (j := i * 4 + 1) (by omega)]
  match i, hi with
  | 0, _ | 1, _ | 2, _ | 3, _ | 4, _ | 5, _ => rfl
 ·rw [h.cell (j := i * 4 + 2) (by omega)]
  match i, hi with
  | 0, _ | 1, _ | 2, _ | 3, _ | 4, _ | 5, _ => rfl
 ·rw [h.cell (j := i * 4 + 3) (by omega)]
  match i, hi with
  | 0, _ | 1, _ | 2, _ | 3, _ | 4, _ | 5, _ => rfl
theorem nz (w : World) : Calls Tryz.prog 42 #[] w fun e w' => e = .returned (.slice (some ⟨w.heap.size, 0, none⟩) 6 6) ∧ w' = w.alloc fB := by
 go_enter Tryz.func42, Tryz.ntmps42
 go_wp2
 go_ret
 exact ⟨rfl, rfl⟩
end
end Go.Proofs.YtdchjcadhlkpfaaGreatDoor
