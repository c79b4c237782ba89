/- Several texts in one: DsK, DsU, FnTopM, DtM, DtA, DtB, DsL, DsP, DsQ, DsR, DrX. -/
import Derived.Lib.Join
import Derived.Test.YtdchjcadhlkpfaaGreatDoorQFnTopOwn41
import Derived.Test.YtdchjcadhlkpfaaGreatDoorQFnTopOwn26
import Derived.Test.YtdchjcadhlkpfaaGreatDoorQFnTopOwn19
import Derived.Test.YtdchjcadhlkpfaaGreatDoorQFnTopOwn10
import Derived.Test.YtdchjcadhlkpfaaGreatDoorQFnTopOwn27
import Derived.Test.YtdchjcadhlkpfaaGreatDoorQFnTopOwn31
import Derived.Test.YtdchjcadhlkpfaaGreatDoorQFnTopOwn13
import Derived.Test.YtdchjcadhlkpfaaGreatDoorQFnTopOwn37
import Derived.Test.YtdchjcadhlkpfaaGreatDoorQFnTopOwn21
import Derived.Test.YtdchjcadhlkpfaaGreatDoorQFnTopOwn1
namespace Go.Proofs.YtdchjcadhlkpfaaGreatDoor
set_option linter.unusedVariables false
set_option linter.unusedSimpArgs false
set_option maxRecDepth 100000
set_option maxHeartbeats 8000000
section
open Go.RowKit Go.Sort
def jE (ids : List Int) : Nat → ByteArray
 | 0 => ⟨#[]⟩
 | k + 1 => (if 0 < k then jE ids k ++ ⟨#[44]⟩ else jE ids k) ++ ey (ids.getD k 0).toNat
def rz (t : Tk) (u : U4) (cone : Int) : ByteArray := if bg t.L (bc t.L u.1 u.2.1 u.2.2.1 u.2.2.2 cone) = 0 then jE (aV t.L (bc t.L u.1 u.2.1 u.2.2.1 u.2.2.2 cone)) (aV t.L (bc t.L u.1 u.2.1 u.2.2.1 u.2.2.2 cone)).length else ew (bg t.L (bc t.L u.1 u.2.1 u.2.2.1 u.2.2.2 cone)).toNat
def jf (t : Tk) : ByteArray := if t.mode = 0 then ⟨#[48, 32, 45]⟩ else (ey t.mode.toNat ++ ⟨#[32]⟩) ++ eK t.A t.B t.C t.D
def ji (d : Tk × U4) (l : Ln) : (Tk × U4) × ByteArray :=
 match l.k with
 | 0 => (((dL d.1 []).1, d.2), (dL d.1 []).2)
 | 1 => cj d.1 d.2 ⟨l.t.toArray⟩ false
 | 2 => (d, rz d.1 d.2 l.n)
 | 3 => cj d.1 d.2 ⟨l.t.toArray⟩ true
 | 4 => ((eR d.1, d.2), cf)
 | 5 => (((dL d.1 (bc d.1.L d.2.1 d.2.2.1 d.2.2.2.1 d.2.2.2.2 l.n)).1, d.2), (dL d.1 (bc d.1.L d.2.1 d.2.2.1 d.2.2.2.1 d.2.2.2.2 l.n)).2)
 | _ => (d, jf d.1)
def oU (t : Tk) : Prop := t.L.length ≤ 400 ∧ 0 ≤ t.mode ∧ t.mode ≤ 2
theorem gj {n : Nat} (h : n ≤ 1000000000) : (ew n).size ≤ 16 := by
 unfold ew
 rw [ByteArray.size_append]
 have := cu h
 have e : (⟨#[101, 114, 114, 111, 114, 32]⟩ : ByteArray).size = 6 := rfl
 omega
theorem lB : ∀ (M : List (List Int)) (s : SeN), (M.foldl bB s).best ∈ M ∨ (M.foldl bB s).best = s.best
 | [], s => .inr rfl
 | l :: M, s => by
  rcases lB M (bB s l) with h | h
  ·exact .inl (List.mem_cons_of_mem _ h)
  ·have : (bB s l).best = l ∨ (bB s l).best = s.best := by unfold bB; (repeat' split) <;> first | exact .inl rfl | exact .inr rfl
   rcases this with e | e
   ·exact .inl (by show (M.foldl bB (bB s l)).best ∈ l :: M; rw [h, e]; exact List.mem_cons_self ..)
   ·exact .inr (by show (M.foldl bB (bB s l)).best = s.best; rw [h, e])
theorem kz (F : List Int → Int → Bool) (A : List Int) : ∀ (r : Nat) (ids l : List Int), l ∈ cH F A r ids → l.length = ids.length + r ∧ ∀ x ∈ l, x ∈ ids ∨ x ∈ A ∨ x = 0
 | 0, ids, l, h => by
  unfold cH at h
  rw [List.mem_singleton] at h
  subst h
  exact ⟨rfl, fun x hx => .inl hx⟩
 | r + 1, ids, l, h => by
  unfold cH at h
  rcases List.mem_append.1 h with h | h
  ·obtain ⟨a, ha, hl⟩ := List.mem_flatMap.1 h
   obtain ⟨h1, h2⟩ := kz F A r (ids ++ [a]) l hl
   have haA : a ∈ A := (List.mem_filter.1 ha).1
   refine ⟨by rw [h1, List.length_append]; simp; omega, fun x hx => ?_⟩
   rcases h2 x hx with h3 | h3
   ·rcases List.mem_append.1 h3 with h4 | h4
    ·exact .inl h4
    ·rw [List.mem_singleton] at h4; subst h4; exact .inr (.inl haA)
   ·exact .inr h3
  ·obtain ⟨h1, h2⟩ := kz F A r (ids ++ [0]) l h
   refine ⟨by rw [h1, List.length_append]; simp; omega, fun x hx => ?_⟩
   rcases h2 x hx with h3 | h3
   ·rcases List.mem_append.1 h3 with h4 | h4
    ·exact .inl h4
    ·rw [List.mem_singleton] at h4; exact .inr (.inr h4)
   ·exact .inr h3
theorem gR (L : List St) (S : List D3) : (aV L S).length ≤ S.length ∧ ∀ x ∈ aV L S, 0 ≤ x ∧ x ≤ 9999 := by
 unfold aV
 split
 ·exact ⟨Nat.zero_le _, fun x h => by cases h⟩
 ·split
  ·rename_i _ hok
   unfold oD
   split
   ·unfold idR
    rw [ic]
    rcases lB (cH (eM L S) (L.map (·.1)) S.length []) ⟨[], 3, 0⟩ with h | h
    ·obtain ⟨h1, h2⟩ := kz _ _ _ _ _ h
     refine ⟨by rw [h1]; simp, fun x hx => ?_⟩
     rcases h2 x hx with h3 | h3 | h3
     ·cases h3
     ·obtain ⟨s, hs, rfl⟩ := List.mem_map.1 h3
      have hk : be L = true := by unfold kN at hok; simp only [Bool.and_eq_true] at hok; exact hok.1
      obtain ⟨i, hi, e⟩ := List.getElem_of_mem hs
      have := (dg hk).2 i hi
      unfold fl idB at this
      simp only [Bool.and_eq_true, decide_eq_true_eq] at this
      have e2 : stA L i = s := by unfold stA; rw [List.getD_eq_getElem?_getD, List.getElem?_eq_getElem hi, e]; rfl
      rw [e2] at this
      omega
     ·subst h3; omega
    ·rw [h]; exact ⟨Nat.zero_le _, fun x h => by cases h⟩
   ·exact ⟨Nat.zero_le _, fun x h => by cases h⟩
  ·exact ⟨Nat.zero_le _, fun x h => by cases h⟩
theorem iO {ids : List Int} (h : ∀ x ∈ ids, 0 ≤ x ∧ x ≤ 9999) : ∀ k, (jE ids k).size ≤ 11 * k
 | 0 => Nat.le_refl _
 | k + 1 => by
  have ih := iO h k
  have hd : (ey (ids.getD k 0).toNat).size ≤ 10 := by
   refine cu ?_
   by_cases hk : k < ids.length
   ·rw [List.getD_eq_getElem?_getD, List.getElem?_eq_getElem hk]
    have := h _ (List.getElem_mem hk)
    simp only [Option.getD_some]
    omega
   ·rw [List.getD_eq_getElem?_getD, List.getElem?_eq_none (by omega)]
    decide
  unfold jE
  rw [ByteArray.size_append]
  split
  ·rw [ByteArray.size_append, show (⟨#[44]⟩ : ByteArray).size = 1 from rfl]; omega
  ·omega
theorem jj (L : List St) (S : List D3) : 0 ≤ bg L S ∧ bg L S ≤ 11 := by
 unfold bg kt
 repeat' split
 all_goals omega
theorem rZ (t : Tk) (u : U4) (cone : Int) : (rz t u cone).size ≤ 70 := by
 unfold rz
 split
 ·obtain ⟨h1, h2⟩ := gR t.L (bc t.L u.1 u.2.1 u.2.2.1 u.2.2.2 cone)
  have h3 := gC t.L u.1 u.2.1 u.2.2.1 u.2.2.2 cone
  have := iO h2 (aV t.L (bc t.L u.1 u.2.1 u.2.2.1 u.2.2.2 cone)).length
  omega
 ·have h := jj t.L (bc t.L u.1 u.2.1 u.2.2.1 u.2.2.2 cone)
  have := gj (n := (bg t.L (bc t.L u.1 u.2.1 u.2.2.1 u.2.2.2 cone)).toNat) (by omega)
  omega
theorem jH (n : Int) : (dig n).length ≤ 2 := by unfold dig; split <;> simp
theorem lJ (a b c d : Int) : (eK a b c d).size ≤ 11 := by
 unfold eK
 split
 ·have h1 := jH a
  have h2 := jH b
  have h3 := jH c
  have h4 := jH d
  show (gN a b c d).toArray.size ≤ 11
  unfold gN
  simp only [List.size_toArray, List.length_append, List.length_cons]
  omega
 ·exact Nat.zero_le _
theorem oy {t : Tk} (h : oU t) : (jf t).size ≤ 70 := by
 unfold jf
 split
 ·decide
 ·have h1 := cu (n := t.mode.toNat) (by have := h.2; omega)
  have h2 := lJ t.A t.B t.C t.D
  rw [ByteArray.size_append, ByteArray.size_append, show (⟨#[32]⟩ : ByteArray).size = 1 from rfl]
  omega
theorem ip (t : Tk) (u : U4) (s : ByteArray) (told : Bool) : (cj t u s told).2.size ≤ 70 := by
 unfold cj
 split
 ·split
  ·show cf.size ≤ 70; decide
  ·have h : 0 ≤ fD s u ∧ fD s u ≤ 9 := kH _ _ _ _ _ _ _ _
   have := gj (n := (fD s u).toNat) (by omega)
   show (ew (fD s u).toNat).size ≤ 70
   omega
 ·have h := gK s
  have := gj (n := (ch s).toNat) (by omega)
  show (ew (ch s).toNat).size ≤ 70
  omega
theorem kB (t : Tk) (S : List D3) : (dL t S).2.size ≤ 70 := by
 unfold dL
 split
 ·rename_i h0
  have h := la h0
  have := cu (n := (bL t S).mode.toNat) (by omega)
  show (ey (bL t S).mode.toNat).size ≤ 70
  omega
 ·have h := kZ t S
  have := gj (n := (bV t S).toNat) (by omega)
  show (ew (bV t S).toNat).size ≤ 70
  omega
theorem py {d : Tk × U4} (h : oU d.1) (l : Ln) : (ji d l).2.size ≤ 70 := by
 unfold ji
 split
 ·exact kB _ _
 ·exact ip _ _ _ _
 ·exact rZ _ _ _
 ·exact ip _ _ _ _
 ·show cf.size ≤ 70; decide
 ·exact kB _ _
 ·exact oy h
def stD (p : (Tk × U4) × ByteArray) (l : Ln) : (Tk × U4) × ByteArray := ((ji p.1 l).1, p.2 ++ ((ji p.1 l).2 ++ ⟨#[10]⟩))
def cw : Tk × U4 := (kl jl 2, (1, 0, 0, 0))
def runD (ls : List Ln) : (Tk × U4) × ByteArray := ls.foldl stD (cw, ⟨#[]⟩)
def mI (s : ByteArray) : ByteArray := (runD (cg s)).2
theorem eX {c : UInt8} : ∀ {s p : List UInt8}, p ∈ pcs c s → p.length ≤ s.length
 | [], p, h => by unfold pcs at h; simp at h; rw [h]; exact Nat.le_refl _
 | x :: xs, p, h => by
  unfold pcs at h
  split at h
  ·rcases List.mem_cons.1 h with h | h
   ·rw [h]; exact Nat.zero_le _
   ·exact Nat.le_succ_of_le (eX h)
  ·rcases List.mem_cons.1 h with h | h
   ·rw [h]
    cases hp : pcs c xs with
    | nil => exact absurd hp (lc _ _)
    | cons q r => have := eX (c := c) (s := xs) (p := q) (by rw [hp]; exact List.mem_cons_self ..); simp; exact this
   ·exact Nat.le_succ_of_le (eX (List.mem_of_mem_tail h))
theorem uh {w : World} {B m n b : Nat} {t t' : TypeId} {v : Value} {xs cs : List Value} (h : w.ownsRow B t m v n xs) (h' : Blk w b cs t') (ht : t ≠ t') : v.ownBlock = none ∨ v.ownBlock ≠ some b := by
 rcases h.2 with ⟨rfl, _⟩ | ⟨g, cap, cur, rfl, _, hg, _⟩
 ·exact .inl rfl
 ·refine .inr (fun e => ?_)
  obtain rfl : g = b := Option.some.inj e
  have h2 : w.heap[g]? = some (.cells cs.toArray t') := h'
  rw [hg] at h2
  injection h2 with e1
  injection e1 with _ e2
  exact ht e2
def eh (d : ByteArray) : List ByteArray := [⟨#[105, 100, 115, 32, 48]⟩, ⟨#[115, 116, 97, 116, 101]⟩, ⟨#[115, 101, 101, 32, 48]⟩, ⟨#[115, 116, 97, 116, 101]⟩, ((⟨#[100, 114, 105, 102, 116, 32]⟩ : ByteArray) ++ d), ⟨#[115, 101, 101, 32, 48]⟩, ⟨#[115, 116, 97, 116, 101]⟩, ⟨#[109, 111, 118, 101, 32, 49, 44, 48, 44, 48, 44, 49]⟩, ⟨#[98, 108, 105, 110, 100]⟩, ⟨#[115, 101, 101, 32, 48]⟩, ⟨#[98, 108, 105, 110, 100]⟩, ⟨#[98, 108, 105, 110, 100]⟩, ⟨#[98, 108, 105, 110, 100]⟩, ⟨#[115, 116, 97, 116, 101]⟩, ⟨#[105, 100, 115, 32, 49, 48, 49]⟩, ⟨#[100, 114, 105, 102, 116, 32, 49, 44, 49, 44, 48, 44, 48]⟩, ⟨#[114, 101, 115, 101, 116]⟩, ⟨#[115, 101, 101, 32, 49, 48, 49]⟩, ⟨#[109, 111, 118, 101, 32, 120]⟩, ⟨#[109, 111, 118, 101, 32, 49, 44, 48, 44, 48, 44, 54]⟩]
def eD (d : ByteArray) : List ByteArray := [⟨#[49, 44, 50, 44, 51, 44, 52, 44, 53]⟩, ⟨#[48, 32, 45]⟩, ⟨#[49]⟩, ⟨#[49, 32, 49, 44, 48, 44, 48, 44, 48]⟩, ⟨#[111, 107]⟩, ⟨#[49]⟩, ((⟨#[49, 32]⟩ : ByteArray) ++ d), ⟨#[111, 107]⟩, ⟨#[50]⟩, ⟨#[49]⟩, ⟨#[50]⟩, ⟨#[50]⟩, ⟨#[48]⟩, ⟨#[48, 32, 45]⟩, ⟨#[101, 114, 114, 111, 114, 32, 54]⟩, ⟨#[111, 107]⟩, ⟨#[111, 107]⟩, ⟨#[48]⟩, ⟨#[101, 114, 114, 111, 114, 32, 51]⟩, ⟨#[101, 114, 114, 111, 114, 32, 51]⟩]
def ee (l : List ByteArray) : Nat → ByteArray
 | 0 => ⟨#[]⟩
 | k + 1 => (ee l k ++ l.getD k ⟨#[]⟩) ++ ⟨#[10]⟩
def pn (n : Int) : ByteArray := ⟨#[49, 44, 48, 44, 48, 44]⟩ ++ (if n = 0 then ⟨#[45, 50]⟩ else if n = 1 then ⟨#[45, 49]⟩ else if n = 2 then ⟨#[48]⟩ else if n = 3 then ⟨#[49]⟩ else ⟨#[50]⟩)
def jM (d : ByteArray) : Prop := dn (ee (eh d) 20) = 0 ∧ mI (ee (eh d) 20) = ee (eD d) 20 ∧ d.size ≤ 8
theorem uK : jM (pn 0) := ⟨by decide +kernel, by decide +kernel, by decide +kernel⟩
theorem uU : jM (pn 1) := ⟨by decide +kernel, by decide +kernel, by decide +kernel⟩
theorem uG : jM (pn 2) := ⟨by decide +kernel, by decide +kernel, by decide +kernel⟩
theorem uw : jM (pn 3) := ⟨by decide +kernel, by decide +kernel, by decide +kernel⟩
theorem uA : jM (pn 4) := ⟨by decide +kernel, by decide +kernel, by decide +kernel⟩
theorem vB {n : Int} (h0 : 0 ≤ n) (h5 : n < 5) : jM (pn n) := by
 rcases (by omega : n = 0 ∨ n = 1 ∨ n = 2 ∨ n = 3 ∨ n = 4) with rfl | rfl | rfl | rfl | rfl
 ·exact uK
 ·exact uU
 ·exact uG
 ·exact uw
 ·exact uA
theorem jb (l : List ByteArray) (m : Nat) (h : ∀ x ∈ l, x.size ≤ m) : ∀ k, (ee l k).size ≤ (m + 1) * k
 | 0 => Nat.le_refl _
 | k + 1 => by
  have ih := jb l m h k
  have hx : (l.getD k ⟨#[]⟩).size ≤ m := by
   rw [List.getD_eq_getElem?_getD]
   cases hk : l[k]? with
   | none => exact Nat.zero_le _
   | some x => exact h x (List.mem_of_getElem? hk)
  unfold ee
  rw [ByteArray.size_append, ByteArray.size_append, Nat.mul_succ]
  show _ + 1 ≤ _
  omega
theorem oQ {d : ByteArray} (h : d.size ≤ 8) : ∀ x ∈ eh d, x.size ≤ 20 := by
 intro x hx
 unfold eh at hx
 simp only [List.mem_cons, List.not_mem_nil, or_false] at hx
 rcases hx with rfl | rfl | rfl | rfl | rfl | rfl | rfl | rfl | rfl | rfl | rfl | rfl | rfl | rfl | rfl | rfl | rfl | rfl | rfl | rfl <;> first | decide | (rw [ByteArray.size_append]; show 6 + d.size ≤ 20; omega)
theorem pj {d : ByteArray} (h : d.size ≤ 8) : ∀ x ∈ eD d, x.size ≤ 20 := by
 intro x hx
 unfold eD at hx
 simp only [List.mem_cons, List.not_mem_nil, or_false] at hx
 rcases hx with rfl | rfl | rfl | rfl | rfl | rfl | rfl | rfl | rfl | rfl | rfl | rfl | rfl | rfl | rfl | rfl | rfl | rfl | rfl | rfl <;> first | decide | (rw [ByteArray.size_append]; show 2 + d.size ≤ 20; omega)
end
section
open Go.RowKit
theorem ij (n : Nat) : aZ (n : Int) = ey n := by
 unfold aZ Lib.itoa
 rw [if_neg (by omega), Int.toNat_natCast]
 by_cases h : n = 0
 ·subst h
  have : Lib.decDigits 0 = [48] := by rw [Lib.decDigits]; rfl
  rw [this]
  rfl
 ·rw [oJ h]
  unfold dG
  rw [if_neg h]
def dc (xs : List ByteArray) (sep : ByteArray) : ByteArray := ⟨(Lib.join (xs.map (·.data.toList)) sep.data.toList).toArray⟩
theorem fX (x sep : ByteArray) : dc [x] sep = x := by
 unfold dc
 rw [List.map_cons, List.map_nil, Lib.join_one]
theorem iX (x y sep : ByteArray) : dc [x, y] sep = (x ++ sep) ++ y := by
 unfold dc
 apply ByteArray.ext
 simp [Lib.join_cons, Lib.joinTail]
theorem re (n : Nat) : dc [⟨#[101, 114, 114, 111, 114]⟩, ey n] ⟨#[32]⟩ = ew n := by
 rw [iX]
 rfl
theorem mc (xs : List ByteArray) (sep : ByteArray) (m c : Nat) (hm : ∀ x ∈ xs, x.size ≤ m) (hc : xs.length ≤ c) : (Lib.join (xs.map (·.data.toList)) sep.data.toList).length ≤ (sep.size + m) * c := by
 cases xs with
 | nil => exact Nat.zero_le _
 | cons x r =>
  have h2 : ∀ r : List ByteArray, (∀ x ∈ r, x.size ≤ m) → (Lib.joinTail sep.data.toList (r.map (·.data.toList))).length ≤ (sep.size + m) * r.length := by
   intro r
   induction r with
   | nil => intro _; exact Nat.zero_le _
   | cons y r ih =>
    intro h
    have h1 := ih (fun x hx => h x (List.mem_cons_of_mem _ hx))
    have h3 := h y (List.mem_cons_self ..)
    have e : (Lib.joinTail sep.data.toList ((y :: r).map (·.data.toList))).length = sep.size + y.size + (Lib.joinTail sep.data.toList (r.map (·.data.toList))).length := by
     unfold Lib.joinTail
     simp [Nat.add_assoc]
    rw [e, List.length_cons, Nat.mul_succ]
    omega
  rw [List.map_cons, Lib.join_cons, List.length_append]
  have h1 := h2 r (fun y hy => hm y (List.mem_cons_of_mem _ hy))
  have h3 := hm x (List.mem_cons_self ..)
  have e : x.data.toList.length = x.size := by simp
  have h4 : (sep.size + m) * (r.length + 1) ≤ (sep.size + m) * c := Nat.mul_le_mul_left _ hc
  rw [Nat.mul_succ] at h4
  omega
theorem pu (xs : List ByteArray) (y sep : ByteArray) (h : xs ≠ []) : dc (xs ++ [y]) sep = (dc xs sep ++ sep) ++ y := by
 cases xs with
 | nil => exact absurd rfl h
 | cons x r =>
  unfold dc
  apply ByteArray.ext
  simp [Lib.join_cons, Lib.joinTail]
theorem ma (ids : List Int) (h : ∀ x ∈ ids, 0 ≤ x) : ∀ k, k ≤ ids.length → dc ((ids.take k).map aZ) ⟨#[44]⟩ = jE ids k
 | 0, _ => by unfold dc jE; rfl
 | k + 1, hk => by
  have ih := ma ids h k (by omega)
  have hx := h _ (List.getElem_mem (show k < ids.length by omega))
  have e : aZ ids[k] = ey (ids.getD k 0).toNat := by
   rw [List.getD_eq_getElem?_getD, List.getElem?_eq_getElem (show k < ids.length by omega)]
   simp only [Option.getD_some]
   obtain ⟨n, hn⟩ := Int.eq_ofNat_of_zero_le hx
   rw [hn, ij, Int.toNat_natCast]
  rw [List.take_succ_eq_append_getElem (show k < ids.length by omega), List.map_append, List.map_cons, List.map_nil]
  unfold jE
  by_cases h0 : 0 < k
  ·rw [if_pos h0, pu _ _ _ (by
    intro e
    have := congrArg List.length e
    rw [List.length_map, List.length_take] at this
    have h9 : min k ids.length = 0 := this
    omega), ih, e]
  ·obtain rfl : k = 0 := by omega
   rw [if_neg h0]
   show dc [aZ ids[0]] _ = _
   rw [fX, e]
   unfold jE
   apply ByteArray.ext
   simp
theorem kD {t : Tk} (h : ax t = true) : ax (nw t) = true := by
 unfold ax at h ⊢
 rw [Bool.and_eq_true] at h ⊢
 exact ⟨h.1, rfl⟩
theorem lg {a b c d e f g i : Int} (h : coK a b c d e f g i = 0) : az a b c d = true ∧ az (mz a b c d e f g i) (mt a b c d e f g i) (mV a b c d e f g i) (mT a b c d e f g i) = true := by
 unfold coK at h
 split at h
 ·rename_i hr
  have hr' : az a b c d = true := by unfold coR at hr; rw [Bool.and_eq_true] at hr; exact hr.1
  refine ⟨hr', ?_⟩
  have := (sa h).2.2
  unfold mz mt mV mT coP ofP
  simp only [if_pos hr, if_pos h]
  exact this
 ·cases h
theorem ni {t : Tk} (h : ax t = true) (a b c d : Int) : ax (bE t a b c d) = true := by
 unfold bE
 split
 ·exact h
 ·rename_i h0
  split
  ·rename_i hk
   have hr := (lg hk).2
   have hm := fj h
   unfold ax at h ⊢
   rw [Bool.and_eq_true] at h ⊢
   refine ⟨h.1, ?_⟩
   by_cases h1 : t.mode = 1
   ·rw [gz h1, Bool.and_eq_true] at hm
    rw [gz (by exact h1), Bool.and_eq_true]
    exact ⟨hr, hm.2⟩
   ·by_cases h2 : t.mode = 2
    ·rw [iE h2, Bool.and_eq_true] at hm
     rw [iE (by exact h2), Bool.and_eq_true]
     exact ⟨hr, hm.2⟩
    ·rw [kK h0 h1 h2] at hm; cases hm
  ·exact kD h
theorem oE {L : List St} {S : List D3} (h : (aR L S).2 = 0) : az (aR L S).1.1 (aR L S).1.2.1 (aR L S).1.2.2.1 (aR L S).1.2.2.2 = true := by
 unfold aR at h ⊢
 split at h
 ·rename_i hk
  rw [if_pos hk]
  unfold fK at h ⊢
  split at h
  ·cases h
  ·rename_i h4
   rw [if_neg h4]
   split at h
   ·rename_i h5
    rw [if_pos h5]
    split at h
    ·cases h
    ·rename_i h6
     rw [if_neg h6]
     unfold eN at h ⊢
     split at h
     ·rename_i t ht
      have hm := List.mem_of_find?_eq_some ht
      obtain ⟨k, hk, e⟩ := List.getElem_of_mem hm
      have := jt hk
      have e2 : tA (aA 625) k = t := by unfold tA; rw [List.getD_eq_getElem?_getD, List.getElem?_eq_getElem hk, e]; rfl
      rw [e2] at this
      exact this
     ·cases h
   ·cases h
 ·rename_i hk
  exact absurd h hk
theorem nM {t : Tk} (h : ax t = true) (hf : t.fr ≠ 1000000) : iq { t with fr := t.fr + 1 } = true := by
 have h2 := sz h
 unfold ax iq at h
 simp only [Bool.and_eq_true] at h
 unfold iq
 simp only [Bool.and_eq_true]
 exact ⟨h.1.1, iw (by show 0 ≤ t.fr + 1; omega) (by show t.fr + 1 ≤ 1000000; omega)⟩
theorem pg {t : Tk} (h : ax t = true) (S : List D3) (hf : t.fr ≠ 1000000) : ax (eo t S) = true := by
 have hd := nM h hf
 have hm := fj h
 unfold eo
 split
 ·rename_i h1
  have hr := ku h h1.1
  unfold ax
  rw [Bool.and_eq_true]
  refine ⟨hd, ?_⟩
  rw [gz rfl, Bool.and_eq_true]
  exact ⟨hr, rfl⟩
 ·split
  ·rename_i h2
   unfold ax
   rw [Bool.and_eq_true]
   refine ⟨hd, ?_⟩
   rw [gz rfl, Bool.and_eq_true]
   exact ⟨oE h2, rfl⟩
  ·unfold aY
   split
   ·unfold ax
    rw [Bool.and_eq_true]
    exact ⟨hd, hm⟩
   ·rename_i h0
    split
    ·unfold ax
     rw [Bool.and_eq_true]
     exact ⟨hd, rfl⟩
    ·rename_i hl
     have hr := ku h h0
     have hc : 0 ≤ t.coast := by
      by_cases h1 : t.mode = 1
      ·rw [gz h1, Bool.and_eq_true] at hm
       have := of_decide_eq_true hm.2
       omega
      ·by_cases h2 : t.mode = 2
       ·rw [iE h2, Bool.and_eq_true] at hm
        have := (iz.1 hm.2).1
        omega
       ·have h0' : t.mode ≠ 0 := h0
        rw [kK h0' h1 h2] at hm; cases hm
     unfold ax
     rw [Bool.and_eq_true]
     refine ⟨hd, ?_⟩
     rw [iE rfl, Bool.and_eq_true]
     exact ⟨hr, iw (by show 1 ≤ t.coast + 1; omega) (by show t.coast + 1 ≤ t.lim; have : ¬ t.lim < t.coast + 1 := hl; omega)⟩
theorem jg {t : Tk} (h : ax t = true) (S : List D3) : ax (dL t S).1 = true := by
 unfold dL
 split
 ·rename_i h0
  unfold bV at h0
  unfold bL
  split at h0
  ·cases h0
  ·rename_i h4
   rw [if_neg h4]
   split at h0
   ·rename_i h5
    rw [if_pos h5]
    split at h0
    ·cases h0
    ·rename_i h6
     rw [if_neg h6]
     exact pg h S h6
   ·cases h0
 ·exact h
theorem gq {t : Tk} (h : ax t = true) (u : U4) (s : ByteArray) (told : Bool) : ax (cj t u s told).1.1 = true := by
 unfold cj
 split
 ·split
  ·rename_i hk
   cases told
   ·exact h
   ·show ax (gv t _ _ _ _) = true
    unfold gv fs
    rw [h, (lg hk).1]
    exact ni h _ _ _ _
  ·exact h
 ·exact h
theorem oX {d : Tk × U4} (h : ax d.1 = true) (l : Ln) : ax (ji d l).1.1 = true := by
 unfold ji
 split
 ·exact jg h _
 ·exact gq h _ _ _
 ·exact h
 ·exact gq h _ _ _
 ·show ax (eR d.1) = true
  unfold eR
  rw [if_pos h]
  exact kD h
 ·exact jg h _
 ·exact h
theorem nG : ax cw.1 = true := by decide +kernel
theorem dF {t : Tk} (h : ax t = true) : oU t := by
 have hm := fj h
 refine ⟨Nat.le_trans (dg (ra h)).1 (by decide), ?_⟩
 by_cases h0 : t.mode = 0
 ·omega
 ·by_cases h1 : t.mode = 1
  ·omega
  ·by_cases h2 : t.mode = 2
   ·omega
   ·rw [kK h0 h1 h2] at hm; cases hm
end
section
open Go.RowKit Go.Sort
theorem fd (n : Nat) (w : World) (hn : n ≤ 1000000000) (ht : Tab w) : Calls Tryz.prog 118 #[.int .i64 (n : Int)] w fun e w' => e = .returned (.string (ey n)) ∧ Below w.heap.size w w' := by
 have cF : Hid (Calls Tryz.prog 149 #[.int .i64 (n : Int), .int .i64 10] w fun e w' => e = .returned (.string (ey n)) ∧ Below w.heap.size w w') := yz ((strconv_FormatInt_10 (n : Int) (by omega) (by omega) w ht).mono fun e w' ⟨he, k, os, hw⟩ => ⟨by rw [he, ← ij]; rfl, by subst hw; exact kV _ _ _⟩)
 generalize ey n = x at *
 go_enter Tryz.func118, Tryz.ntmps118
 go_wp2_with fail
 refine (yy cF).mono ?_
 rintro e w' ⟨rfl, hx⟩
 go_wp2_with fail
 go_ret
 exact ⟨rfl, hx⟩
def cy (w : World) (b : Nat) (xs : List ByteArray) : Prop := Blk w b (xs.map .string) 9
theorem cy.cells {w : World} {b : Nat} {xs : List ByteArray} (h : cy w b xs) : ∀ (j : Nat) x, xs[j]? = some x → w.cell? ⟨b, 0 + j, none⟩ = some (.string x) := fun j x hj => by
 rw [Nat.zero_add]
 exact Blk.cell h j _ (by rw [List.getElem?_map, hj]; rfl)
theorem cy.kept {w w' : World} {b : Nat} {xs : List ByteArray} (h : cy w b xs) (hB : Below w.heap.size w w') : cy w' b xs := Blk.kept h hB
theorem tQ (xs : List ByteArray) (b : Nat) (sep : ByteArray) (w : World) (h : cy w b xs) (hs : sep.size ≤ 10) (hm : ∀ x ∈ xs, x.size ≤ 1000) (hl : xs.length ≤ 400) :
  Calls Tryz.prog 119 #[.slice (some ⟨b, 0, none⟩) xs.length xs.length, .string sep] w fun e w' => e = .returned (.string (dc xs sep)) ∧ Below w.heap.size w w' :=
 strings_Join b 0 xs.length xs sep w h.cells (Blk.lt h) (by omega) (Nat.le_refl _) (by
  have h1 := mc xs sep 1000 400 hm hl
  have h2 : (sep.size + 1000) * 400 ≤ 1010 * 400 := Nat.mul_le_mul_right _ (by omega)
  omega)
theorem go (xs : List ByteArray) (b : Nat) (w : World) (h : cy w b xs) (hm : ∀ x ∈ xs, x.size ≤ 1000) (hl : xs.length ≤ 400) :
  Calls Tryz.prog 230 #[.slice (some ⟨b, 0, none⟩) xs.length xs.length] w fun e w' => e = .returned (.string (dc xs ⟨#[32]⟩)) ∧ Below w.heap.size w w' := by
 have cJ := yz (tQ xs b ⟨#[32]⟩ w h (by decide) hm hl)
 generalize dc xs ⟨#[32]⟩ = x at *
 go_enter Tryz.func230, Tryz.ntmps230
 go_wp2_with fail
 refine (yy cJ).mono ?_
 rintro e w' ⟨rfl, hx⟩
 go_wp2_with fail
 go_ret
 exact ⟨rfl, hx⟩
def iA (a b : Int) : Int := if a ≠ 0 then a else b
theorem fG (a b : Int) (k : Nat) (w : World) (h : Blk w k [.int .i64 a, .int .i64 b] 2) : Calls Tryz.prog 114 #[.slice (some ⟨k, 0, none⟩) 2 2] w fun e w' => e = .returned (.int .i64 (iA a b)) ∧ Below w.heap.size w w' := by
 have h0 := h.cell 0 _ rfl
 have h1 := h.cell 1 _ rfl
 by_cases ha : a = 0
 ·have HF : Hid (iA a b = b) := yz (by unfold iA; rw [if_neg (by omega)])
  subst ha
  by_cases hb : b = 0
  ·subst hb
   go_enter Tryz.func114, Tryz.ntmps114
   go_wp2_with fail
   refine wp_loop_rounds 3 ?_
   rw [rounds_succ]
   go_wp2_with fail
   rw [rounds_succ]
   go_wp2_with fail
   rw [rounds_succ]
   go_wp2_with fail
   go_ret
   rw [yy HF]
   exact ⟨rfl, Below.refl _ _⟩
  ·have hb' : (b == 0) = false := by simpa using hb
   go_enter Tryz.func114, Tryz.ntmps114
   go_wp2_with fail
   refine wp_loop_rounds 2 ?_
   rw [rounds_succ]
   go_wp2_with fail
   rw [rounds_succ]
   go_wp2_with fail
   go_ret
   rw [yy HF]
   exact ⟨rfl, Below.refl _ _⟩
 ·have HF : Hid (iA a b = a) := yz (by unfold iA; rw [if_pos ha])
  have ha' : (a == 0) = false := by simpa using ha
  go_enter Tryz.func114, Tryz.ntmps114
  go_wp2_with fail
  refine wp_loop_rounds 1 ?_
  rw [rounds_succ]
  go_wp2_with fail
  go_ret
  rw [yy HF]
  exact ⟨rfl, Below.refl _ _⟩
def fC (p : Addr) (w : World) : Prop := aW p w ∧ Tab w
theorem fC.kept {p : Addr} {w w' : World} (h : fC p w) (hB : Below w.heap.size w w') : fC p w' := ⟨h.1.kept hB, h.2.kept hB⟩
def rpV (d : Tk × U4) (a : Option Addr) (cap wb n : Nat) : Value := .iface 99 (.agg #[.slice a d.1.L.length cap, .int .i64 d.1.lim, .int .i64 d.1.mode, .int .i64 d.1.A, .int .i64 d.1.B, .int .i64 d.1.C, .int .i64 d.1.D, .int .i64 d.1.coast, .int .i64 d.1.fr, .int .i64 d.2.1, .int .i64 d.2.2.1, .int .i64 d.2.2.2.1, .int .i64 d.2.2.2.2, .slice (some ⟨wb, 0, none⟩) n n])
def Ans (w' : World) (B : Nat) (d : Tk × U4) (R : (Tk × U4) × ByteArray) (e : Ending) : Prop :=
 (∃ n : Nat, 0 < n ∧ n ≤ 1000 ∧ e = .returned (.iface 178 (.agg #[.int .i64 (n : Int)])) ∧ R = (d, ew n)) ∨
 (∃ (a : Option Addr) (cap wb : Nat) (xs : List ByteArray), e = .returned (rpV R.1 a cap wb xs.length) ∧ ay w' B R.1.1.L a cap ∧ cy w' wb xs ∧ xs.length ≤ 400 ∧ (∀ x ∈ xs, x.size ≤ 1000) ∧ dc xs ⟨#[32]⟩ = R.2)
theorem Ans.ret {w' : World} {B : Nat} {d : Tk × U4} {R : (Tk × U4) × ByteArray} {e : Ending} (h : Ans w' B d R e) : ∃ v, e = .returned v := by
 rcases h with ⟨_, _, _, h, _⟩ | ⟨_, _, _, _, h, _⟩
 ·exact ⟨_, h⟩
 ·exact ⟨_, h⟩
theorem Ans.kept {w' w2 : World} {B : Nat} {d : Tk × U4} {R : (Tk × U4) × ByteArray} {e : Ending} (h : Ans w' B d R e) (hx : Below w'.heap.size w' w2) : Ans w2 B d R e := by
 rcases h with h | ⟨a, cap, wb, xs, h1, h2, h3, h4⟩
 ·exact .inl h
 ·exact .inr ⟨a, cap, wb, xs, h1, h2.kept hx, h3.kept hx, h4⟩
theorem du {w : World} {B : Nat} {L : List St} {a : Option Addr} {cap : Nat} (h : ay w B L a cap) : L.length ≤ cap ∧ cap ≤ maxLen := by
 rcases h.2 with ⟨h1, h0⟩ | ⟨g, c', cur, e, _, _, h1, h2, _⟩
 ·injection h1 with e1 e2 e3
  rw [e3, h0]
  exact ⟨Nat.le_refl _, Nat.zero_le _⟩
 ·injection e with e1 e2 e3
  rw [e3]
  exact ⟨h1, h2⟩
theorem dH (a : Option Addr) (n cap : Nat) (lim mode A B' C D coast fr u1 u2 u3 u4 code : Int) (wa : Option Addr) (wn wc : Nat) (w : World) (hc : code ≠ 0) : Calls Tryz.prog 113 #[.agg #[.slice a n cap, .int .i64 lim, .int .i64 mode, .int .i64 A, .int .i64 B', .int .i64 C, .int .i64 D, .int .i64 coast, .int .i64 fr, .int .i64 u1, .int .i64 u2, .int .i64 u3, .int .i64 u4], .int .i64 code, .slice wa wn wc] w fun e w' => e = .returned (.iface 178 (.agg #[.int .i64 code])) ∧ Below w.heap.size w w' := by
 have hc' : (code == 0) = false := by simpa using hc
 go_enter Tryz.func113, Tryz.ntmps113
 go_wp2
 go_ret
 exact ⟨rfl, an _ _⟩
theorem bT (a : Option Addr) (n cap : Nat) (lim mode A B' C D coast fr u1 u2 u3 u4 : Int) (wa : Option Addr) (wn wc : Nat) (w : World) : Calls Tryz.prog 113 #[.agg #[.slice a n cap, .int .i64 lim, .int .i64 mode, .int .i64 A, .int .i64 B', .int .i64 C, .int .i64 D, .int .i64 coast, .int .i64 fr, .int .i64 u1, .int .i64 u2, .int .i64 u3, .int .i64 u4], .int .i64 0, .slice wa wn wc] w fun e w' => e = .returned (.iface 99 (.agg #[.slice a n cap, .int .i64 lim, .int .i64 mode, .int .i64 A, .int .i64 B', .int .i64 C, .int .i64 D, .int .i64 coast, .int .i64 fr, .int .i64 u1, .int .i64 u2, .int .i64 u3, .int .i64 u4, .slice wa wn wc])) ∧ Below w.heap.size w w' := by
 go_enter Tryz.func113, Tryz.ntmps113
 go_wp2
 go_ret
 exact ⟨rfl, an _ _⟩
theorem oc (n : Nat) (w : World) (hn : n ≤ 1000) (ht : Tab w) : Calls Tryz.prog 231 #[.agg #[.int .i64 (n : Int)]] w fun e w' => e = .returned (.string (ew n)) ∧ Below w.heap.size w w' := by
 have HB := yz (an w (.cells #[.int .i64 (n : Int)] 178))
 have cD := yz (fd n (w.alloc (.cells #[.int .i64 (n : Int)] 178)) (by omega) (ht.kept (yy HB)))
 have hz := cu (n := n) (by omega)
 have HJ := yz (re n)
 generalize ew n = et at *
 generalize ey n = xd at *
 go_enter Tryz.func231, Tryz.ntmps231
 go_wp2_with fail
 refine (yy cD).mono ?_
 rintro e W1 ⟨rfl, hx⟩
 have HB1 := yz (ak (yy HB) hx)
 have HW : Hid (cy (W1.alloc (.cells #[.string ⟨#[101, 114, 114, 111, 114]⟩, .string xd] 9)) W1.heap.size [⟨#[101, 114, 114, 111, 114]⟩, xd]) := yz (au W1 [.string ⟨#[101, 114, 114, 111, 114]⟩, .string xd] 9)
 have HB2 := yz (ak (yy HB1) (an W1 (.cells #[.string ⟨#[101, 114, 114, 111, 114]⟩, .string xd] 9)))
 have cJ : Hid (Calls Tryz.prog 230 #[.slice (some ⟨W1.heap.size, 0, none⟩) 2 2] (W1.alloc (.cells #[.string ⟨#[101, 114, 114, 111, 114]⟩, .string xd] 9)) fun e w' => e = .returned (.string et) ∧ Below (W1.alloc (.cells #[.string ⟨#[101, 114, 114, 111, 114]⟩, .string xd] 9)).heap.size (W1.alloc (.cells #[.string ⟨#[101, 114, 114, 111, 114]⟩, .string xd] 9)) w') := yz (by
  have h := go [⟨#[101, 114, 114, 111, 114]⟩, xd] W1.heap.size _ (yy HW) (by intro x hx; rcases List.mem_cons.1 hx with rfl | hx; decide; rcases List.mem_cons.1 hx with rfl | hx; omega; cases hx) (by simp)
  rw [yy HJ] at h
  exact h)
 clear hx cD HW
 go_wp2_with fail
 refine (yy cJ).mono ?_
 rintro e W2 ⟨rfl, hx⟩
 have HB3 := yz (ak (yy HB2) hx)
 clear hx
 go_wp2_with fail
 go_ret
 exact ⟨rfl, yy HB3⟩
theorem rN (a : Option Addr) (n cap : Nat) (lim mode A B' C D coast fr u1 u2 u3 u4 : Int) (wb : Nat) (xs : List ByteArray) (w : World) (h : cy w wb xs) (hm : ∀ x ∈ xs, x.size ≤ 1000) (hl : xs.length ≤ 400) : Calls Tryz.prog 229 #[.agg #[.slice a n cap, .int .i64 lim, .int .i64 mode, .int .i64 A, .int .i64 B', .int .i64 C, .int .i64 D, .int .i64 coast, .int .i64 fr, .int .i64 u1, .int .i64 u2, .int .i64 u3, .int .i64 u4, .slice (some ⟨wb, 0, none⟩) xs.length xs.length]] w fun e w' => e = .returned (.string (dc xs ⟨#[32]⟩)) ∧ Below w.heap.size w w' := by
 have HB := yz (an w (.cells #[.slice a n cap, .int .i64 lim, .int .i64 mode, .int .i64 A, .int .i64 B', .int .i64 C, .int .i64 D, .int .i64 coast, .int .i64 fr, .int .i64 u1, .int .i64 u2, .int .i64 u3, .int .i64 u4, .slice (some ⟨wb, 0, none⟩) xs.length xs.length] 99))
 have c13 := (au w [.slice a n cap, .int .i64 lim, .int .i64 mode, .int .i64 A, .int .i64 B', .int .i64 C, .int .i64 D, .int .i64 coast, .int .i64 fr, .int .i64 u1, .int .i64 u2, .int .i64 u3, .int .i64 u4, .slice (some ⟨wb, 0, none⟩) xs.length xs.length] 99).cell 13 _ rfl
 have cJ := yz (go xs wb _ (h.kept (yy HB)) hm hl)
 generalize dc xs ⟨#[32]⟩ = x at *
 go_enter Tryz.func229, Tryz.ntmps229
 go_wp2_with fail
 refine (yy cJ).mono ?_
 rintro e W1 ⟨rfl, hx⟩
 have HB1 := yz (ak (yy HB) hx)
 clear hx c13
 go_wp2_with fail
 go_ret
 exact ⟨rfl, yy HB1⟩
theorem nA (t : Tk) (S : List D3) : 0 ≤ (bL t S).mode ∧ (bL t S).mode ≤ 2 := by
 by_cases h : bV t S = 0
 ·exact la h
 ·have e : bL t S = dT := by
   unfold bV at h
   unfold bL
   split at h
   ·rename_i h4; rw [if_pos h4]
   ·rename_i h4
    rw [if_neg h4]
    split at h
    ·rename_i h5
     rw [if_pos h5]
     split at h
     ·rename_i h6; rw [if_pos h6]
     ·exact absurd rfl h
    ·rename_i h5; rw [if_neg h5]
  rw [e]
  exact ⟨by decide, by decide⟩
theorem iT {W : World} {b : Nat} {v0 v1 v2 v3 v4 v5 v6 v7 v8 v9 v10 v11 v12 : Value} {t : TypeId} (h : Blk W b [v0, v1, v2, v3, v4, v5, v6, v7, v8, v9, v10, v11, v12] t) (x0 x1 x2 x3 x4 x5 x6 x7 x8 : Value) : Blk (((((((((W.setCell ⟨b, 0, none⟩ x0).setCell ⟨b, 1, none⟩ x1).setCell ⟨b, 2, none⟩ x2).setCell ⟨b, 3, none⟩ x3).setCell ⟨b, 4, none⟩ x4).setCell ⟨b, 5, none⟩ x5).setCell ⟨b, 6, none⟩ x6).setCell ⟨b, 7, none⟩ x7).setCell ⟨b, 8, none⟩ x8) b [x0, x1, x2, x3, x4, x5, x6, x7, x8, v9, v10, v11, v12] t := Blk.set (Blk.set (Blk.set (Blk.set (Blk.set (Blk.set (Blk.set (Blk.set (Blk.set h 0 x0) 1 x1) 2 x2) 3 x3) 4 x4) 5 x5) 6 x6) 7 x7) 8 x8
theorem gy (W : World) (b : Nat) (x0 x1 x2 x3 x4 x5 x6 x7 x8 : Value) : W.grownBy (((((((((W.setCell ⟨b, 0, none⟩ x0).setCell ⟨b, 1, none⟩ x1).setCell ⟨b, 2, none⟩ x2).setCell ⟨b, 3, none⟩ x3).setCell ⟨b, 4, none⟩ x4).setCell ⟨b, 5, none⟩ x5).setCell ⟨b, 6, none⟩ x6).setCell ⟨b, 7, none⟩ x7).setCell ⟨b, 8, none⟩ x8) (some b) := aE (aE (aE (aE (aE (aE (aE (aE (aE (eF (Below.refl _ _)) 0 _) 1 _) 2 _) 3 _) 4 _) 5 _) 6 _) 7 _) 8 _
theorem dz {w W W2 : World} {b : Nat} (h : Below w.heap.size w W) (hg : W.grownBy W2 (some b)) (hb : w.heap.size ≤ b) : Below w.heap.size w W2 := tj h hg h.size (fun g e => by have := Option.some.inj e; omega)
theorem lC (w : World) (B : Nat) (t : Tk) (u : U4) (a : Option Addr) (cap : Nat) (p : Addr) (S : List D3) (br : Option Addr) (dr : Nat) (hn2 : S.length ≤ 1048576) (hk : ax t = true) (hB : B ≤ w.heap.size) (hC : ay w B t.L a cap) (hE : fC p w) (hS : bG w br S S.length) (hb : ∀ y, br = some y → y.block < w.heap.size) (hdr : S.length ≤ dr) (hd9 : dr ≤ 9223372036854775807) :
  Calls Tryz.prog 110 #[.agg #[.slice a t.L.length cap, .int .i64 t.lim, .int .i64 t.mode, .int .i64 t.A, .int .i64 t.B, .int .i64 t.C, .int .i64 t.D, .int .i64 t.coast, .int .i64 t.fr, .int .i64 u.1, .int .i64 u.2.1, .int .i64 u.2.2.1, .int .i64 u.2.2.2], .slice br S.length dr] w fun e w' => Ans w' B (t, u) (((dL t S).1, u), (dL t S).2) e ∧ Below w.heap.size w w' := by
 have hmx : maxLen ≤ 9223372036854775807 := by decide +kernel
 have hn : t.L.length ≤ 1048576 := Nat.le_trans (dF hk).1 (by decide)
 obtain ⟨u1, u2, u3, u4⟩ := u
 obtain ⟨L, lim, mode, A, B', C, D, coast, fr⟩ := t
 dsimp only at hn hC ⊢
 have HZ := yz (an w (.cells #[.slice a L.length cap, .int .i64 lim, .int .i64 mode, .int .i64 A, .int .i64 B', .int .i64 C, .int .i64 D, .int .i64 coast, .int .i64 fr, .int .i64 u1, .int .i64 u2, .int .i64 u3, .int .i64 u4] 61))
 have HD := yz (au w [.slice a L.length cap, .int .i64 lim, .int .i64 mode, .int .i64 A, .int .i64 B', .int .i64 C, .int .i64 D, .int .i64 coast, .int .i64 fr, .int .i64 u1, .int .i64 u2, .int .i64 u3, .int .i64 u4] 61)
 have hcp := du hC
 have hC0 := hC.kept (yy HZ)
 have cL := yz (nc L S lim mode A B' C D coast fr a cap br dr p (w.alloc (.cells #[.slice a L.length cap, .int .i64 lim, .int .i64 mode, .int .i64 A, .int .i64 B', .int .i64 C, .int .i64 D, .int .i64 coast, .int .i64 fr, .int .i64 u1, .int .i64 u2, .int .i64 u3, .int .i64 u4] 61)) hn hn2 hC0.stars (hS.kept (yy HZ)) (ii hC0) (fun y e => Nat.lt_of_lt_of_le (hb y e) (yy HZ).size) hcp.1 (by omega) hdr hd9 (hE.kept (yy HZ)).1)
 have HE := yz hE
 have HR : Hid (dL ⟨L, lim, mode, A, B', C, D, coast, fr⟩ S = if bV ⟨L, lim, mode, A, B', C, D, coast, fr⟩ S = 0 then (bL ⟨L, lim, mode, A, B', C, D, coast, fr⟩ S, ey (bL ⟨L, lim, mode, A, B', C, D, coast, fr⟩ S).mode.toNat) else (⟨L, lim, mode, A, B', C, D, coast, fr⟩, ew (bV ⟨L, lim, mode, A, B', C, D, coast, fr⟩ S).toNat)) := yz rfl
 have hsp := kZ ⟨L, lim, mode, A, B', C, D, coast, fr⟩ S
 have hmo := nA ⟨L, lim, mode, A, B', C, D, coast, fr⟩ S
 generalize dL ⟨L, lim, mode, A, B', C, D, coast, fr⟩ S = R at *
 generalize bV ⟨L, lim, mode, A, B', C, D, coast, fr⟩ S = code at *
 generalize bL ⟨L, lim, mode, A, B', C, D, coast, fr⟩ S = t2 at *
 obtain ⟨L2, l2, m2, A2, B2, C2, D2, o2, f2⟩ := t2
 dsimp only at hmo
 clear hC0 hC hE
 obtain ⟨d0, d1, d2, d3, d4, d5, d6, d7, d8⟩ := gH (yy HD)
 go_enter Tryz.func110, Tryz.ntmps110
 go_wp2_with fail
 refine (yy cL).mono ?_
 rintro e W1 ⟨⟨a2, cap2, rfl, hC2⟩, hx⟩
 clear d0 d1 d2 d3 d4 d5 d6 d7 d8 cL
 have hal : (w.alloc (.cells #[.slice a L.length cap, .int .i64 lim, .int .i64 mode, .int .i64 A, .int .i64 B', .int .i64 C, .int .i64 D, .int .i64 coast, .int .i64 fr, .int .i64 u1, .int .i64 u2, .int .i64 u3, .int .i64 u4] 61)).heap.size = w.heap.size + 1 := by simp
 have hy := an W1 (.cells #[.slice a2 L2.length cap2, .int .i64 l2, .int .i64 m2, .int .i64 A2, .int .i64 B2, .int .i64 C2, .int .i64 D2, .int .i64 o2, .int .i64 f2, .int .i64 code] 47)
 have HO := yz (au W1 [.slice a2 L2.length cap2, .int .i64 l2, .int .i64 m2, .int .i64 A2, .int .i64 B2, .int .i64 C2, .int .i64 D2, .int .i64 o2, .int .i64 f2, .int .i64 code] 47)
 have HD1 := yz (((yy HD).kept hx).kept hy)
 have HC1 := yz ((eS hC2 (show B ≤ (w.alloc (.cells #[.slice a L.length cap, .int .i64 lim, .int .i64 mode, .int .i64 A, .int .i64 B', .int .i64 C, .int .i64 D, .int .i64 coast, .int .i64 fr, .int .i64 u1, .int .i64 u2, .int .i64 u3, .int .i64 u4] 61)).heap.size by have := (yy HZ).size; omega)).kept (row := none) (eF hy) (by
  rcases hC2.2 with ⟨h1, _⟩ | ⟨g, c', cur, e, _⟩
  ·rw [h1]; exact .inl rfl
  ·rw [e]; exact .inr (fun h => by cases h)))
 have HF : Hid (∀ x, a2 = some x → x.block ≠ w.heap.size) := yz (fun x e => by have := (dD hC2 x e).1; omega)
 have HB1 := yz (ak (ak (yy HZ) hx) hy)
 have hob : w.heap.size < W1.heap.size := by have := hx.size; omega
 clear hx hy hC2 HZ HD hal
 go_upto_region 2 with fail
 generalize W1.alloc (.cells #[.slice a2 L2.length cap2, .int .i64 l2, .int .i64 m2, .int .i64 A2, .int .i64 B2, .int .i64 C2, .int .i64 D2, .int .i64 o2, .int .i64 f2, .int .i64 code] 47) = W3 at *
 generalize W1.heap.size = ob at *
 have e0 := (yy HD1).cell 0 _ rfl
 have z0 := (yy HD1).free 0
 have y0 := (yy HO).cell 0 _ rfl
 have e1 := (yy HD1).cell 1 _ rfl
 have z1 := (yy HD1).free 1
 have y1 := (yy HO).cell 1 _ rfl
 have e2 := (yy HD1).cell 2 _ rfl
 have z2 := (yy HD1).free 2
 have y2 := (yy HO).cell 2 _ rfl
 have e3 := (yy HD1).cell 3 _ rfl
 have z3 := (yy HD1).free 3
 have y3 := (yy HO).cell 3 _ rfl
 have e4 := (yy HD1).cell 4 _ rfl
 have z4 := (yy HD1).free 4
 have y4 := (yy HO).cell 4 _ rfl
 have e5 := (yy HD1).cell 5 _ rfl
 have z5 := (yy HD1).free 5
 have y5 := (yy HO).cell 5 _ rfl
 have e6 := (yy HD1).cell 6 _ rfl
 have z6 := (yy HD1).free 6
 have y6 := (yy HO).cell 6 _ rfl
 have e7 := (yy HD1).cell 7 _ rfl
 have z7 := (yy HD1).free 7
 have y7 := (yy HO).cell 7 _ rfl
 have e8 := (yy HD1).cell 8 _ rfl
 have z8 := (yy HD1).free 8
 have y8 := (yy HO).cell 8 _ rfl
 go_upto_region 3 with fail
 have HD2 := yz (iT (yy HD1) (.slice a2 L2.length cap2) (.int .i64 l2) (.int .i64 m2) (.int .i64 A2) (.int .i64 B2) (.int .i64 C2) (.int .i64 D2) (.int .i64 o2) (.int .i64 f2))
 have hg := gy W3 w.heap.size (.slice a2 L2.length cap2) (.int .i64 l2) (.int .i64 m2) (.int .i64 A2) (.int .i64 B2) (.int .i64 C2) (.int .i64 D2) (.int .i64 o2) (.int .i64 f2)
 have HO2 := yz (Blk.grown (yy HO) hg (fun e => by have := Option.some.inj e; omega))
 have HC2 : Hid (ay _ B L2 a2 cap2) := yz (dv (yy HC1) hg (yy HF))
 have HB2 := yz (dz (yy HB1) hg (Nat.le_refl _))
 clear hg HD1 HO HC1 HB1 e0 z0 y0 e1 z1 y1 e2 z2 y2 e3 z3 y3 e4 z4 y4 e5 z5 y5 e6 z6 y6 e7 z7 y7 e8 z8 y8
 generalize (((((((((W3.setCell ⟨w.heap.size, 0, none⟩ (.slice a2 L2.length cap2)).setCell ⟨w.heap.size, 1, none⟩ (.int .i64 l2)).setCell ⟨w.heap.size, 2, none⟩ (.int .i64 m2)).setCell ⟨w.heap.size, 3, none⟩ (.int .i64 A2)).setCell ⟨w.heap.size, 4, none⟩ (.int .i64 B2)).setCell ⟨w.heap.size, 5, none⟩ (.int .i64 C2)).setCell ⟨w.heap.size, 6, none⟩ (.int .i64 D2)).setCell ⟨w.heap.size, 7, none⟩ (.int .i64 o2)).setCell ⟨w.heap.size, 8, none⟩ (.int .i64 f2)) = W4 at *
 have hw4 : w.heap.size < W4.heap.size := (yy HD2).lt
 have ho4 : ob < W4.heap.size := (yy HO2).lt
 have HKS : Hid (∀ w' : World, Below W4.heap.size W4 w' → (w'.cell? ⟨w.heap.size, 0, none⟩ = some (.slice a2 L2.length cap2) ∧ w'.cell? ⟨w.heap.size, 1, none⟩ = some (.int .i64 l2) ∧ w'.cell? ⟨w.heap.size, 2, none⟩ = some (.int .i64 m2) ∧ w'.cell? ⟨w.heap.size, 3, none⟩ = some (.int .i64 A2) ∧ w'.cell? ⟨w.heap.size, 4, none⟩ = some (.int .i64 B2) ∧ w'.cell? ⟨w.heap.size, 5, none⟩ = some (.int .i64 C2) ∧ w'.cell? ⟨w.heap.size, 6, none⟩ = some (.int .i64 D2) ∧ w'.cell? ⟨w.heap.size, 7, none⟩ = some (.int .i64 o2) ∧ w'.cell? ⟨w.heap.size, 8, none⟩ = some (.int .i64 f2) ∧ w'.cell? ⟨w.heap.size, 9, none⟩ = some (.int .i64 u1) ∧ w'.cell? ⟨w.heap.size, 10, none⟩ = some (.int .i64 u2) ∧ w'.cell? ⟨w.heap.size, 11, none⟩ = some (.int .i64 u3) ∧ w'.cell? ⟨w.heap.size, 12, none⟩ = some (.int .i64 u4)) ∧ w'.cell? ⟨ob, 9, none⟩ = some (.int .i64 code)) := yz (fun w' h => ⟨⟨by rw [h.cell hw4]; exact (yy HD2).cell 0 _ rfl, by rw [h.cell hw4]; exact (yy HD2).cell 1 _ rfl, by rw [h.cell hw4]; exact (yy HD2).cell 2 _ rfl, by rw [h.cell hw4]; exact (yy HD2).cell 3 _ rfl, by rw [h.cell hw4]; exact (yy HD2).cell 4 _ rfl, by rw [h.cell hw4]; exact (yy HD2).cell 5 _ rfl, by rw [h.cell hw4]; exact (yy HD2).cell 6 _ rfl, by rw [h.cell hw4]; exact (yy HD2).cell 7 _ rfl, by rw [h.cell hw4]; exact (yy HD2).cell 8 _ rfl, by rw [h.cell hw4]; exact (yy HD2).cell 9 _ rfl, by rw [h.cell hw4]; exact (yy HD2).cell 10 _ rfl, by rw [h.cell hw4]; exact (yy HD2).cell 11 _ rfl, by rw [h.cell hw4]; exact (yy HD2).cell 12 _ rfl⟩, by rw [h.cell ho4]; exact (yy HO2).cell 9 _ rfl⟩)
 obtain ⟨m, rfl⟩ := Int.eq_ofNat_of_zero_le hmo.1
 have hzd := cu (n := m) (by omega)
 have HE4 := yz ((yy HE).kept (yy HB2))
 have cD := yz (fun (W : World) h => fd m W (by omega) h)
 rw [Int.toNat_natCast] at HR
 generalize ey m = xd at *
 refine wp_region_held_drew (S := (fun w' => (w'.cell? ⟨w.heap.size, 0, none⟩ = some (.slice a2 L2.length cap2) ∧ w'.cell? ⟨w.heap.size, 1, none⟩ = some (.int .i64 l2) ∧ w'.cell? ⟨w.heap.size, 2, none⟩ = some (.int .i64 (m : Int)) ∧ w'.cell? ⟨w.heap.size, 3, none⟩ = some (.int .i64 A2) ∧ w'.cell? ⟨w.heap.size, 4, none⟩ = some (.int .i64 B2) ∧ w'.cell? ⟨w.heap.size, 5, none⟩ = some (.int .i64 C2) ∧ w'.cell? ⟨w.heap.size, 6, none⟩ = some (.int .i64 D2) ∧ w'.cell? ⟨w.heap.size, 7, none⟩ = some (.int .i64 o2) ∧ w'.cell? ⟨w.heap.size, 8, none⟩ = some (.int .i64 f2) ∧ w'.cell? ⟨w.heap.size, 9, none⟩ = some (.int .i64 u1) ∧ w'.cell? ⟨w.heap.size, 10, none⟩ = some (.int .i64 u2) ∧ w'.cell? ⟨w.heap.size, 11, none⟩ = some (.int .i64 u3) ∧ w'.cell? ⟨w.heap.size, 12, none⟩ = some (.int .i64 u4)) ∧ w'.cell? ⟨ob, 9, none⟩ = some (.int .i64 code))) (by kernel_rfl) (yy HKS W4 (Below.refl _ _)) (fun hHeld => ?_)
 refine ac 0 rfl ?_
 try simp only [Act.put, ah, ai, aj]
 refine ac 1 rfl ?_
 try simp only [Act.put, ah, ai, aj]
 refine ac 2 rfl ?_
 try simp only [Act.put, ah, ai, aj]
 refine ac 3 rfl ?_
 try simp only [Act.put, ah, ai, aj]
 refine ac 4 rfl ?_
 try simp only [Act.put, ah, ai, aj]
 refine ac 5 rfl ?_
 try simp only [Act.put, ah, ai, aj]
 refine af 6 rfl fun K hK => ?_
 go_simp
 refine ((yy cD) W4.drew ((yy HE4).kept (Below.refl _ _).drew).2).mono ?_
 rintro e V ⟨rfl, hx⟩
 have HV : Hid (Below W4.heap.size W4 V) := yz ((Below.refl W4.heap.size W4).drew.trans hx)
 clear hx
 refine hK.out _ _ (yy HKS _ (yy HV)) (fun hHeld1 => ?_)
 clear hK K hHeld
 refine af 7 rfl fun K hK => ?_
 go_simp
 have HW5 : Hid (cy (V.alloc (.cells #[.string xd] 9)) V.heap.size [xd]) := yz (au V [.string xd] 9)
 have HV5 := yz (ak (yy HV) (an V (.cells #[.string xd] 9)))
 refine hK.out _ _ (yy HKS _ (yy HV5)) (fun hHeld2 => ?_)
 clear hK K hHeld1
 generalize V.alloc (.cells #[.string xd] 9) = W5 at *
 generalize V.heap.size = wb at *
 clear HV
 have HAB := yz (ak (yy HB2) (yy HV5))
 have HC5 := yz ((yy HC2).kept (yy HV5))
 by_cases hc : code = 0
 ·subst hc
  rw [if_pos rfl] at HR
  refine af 8 rfl fun K hK => ?_
  go_simp
  refine (bT a2 L2.length cap2 l2 (m : Int) A2 B2 C2 D2 o2 f2 u1 u2 u3 u4 (some ⟨wb, 0, none⟩) 1 1 W5).mono ?_
  rintro e V6 ⟨rfl, hx⟩
  have HV6 := yz (ak (yy HV5) hx)
  have HA : Hid (Ans V6 B (⟨L, lim, mode, A, B', C, D, coast, fr⟩, (u1, u2, u3, u4)) ((R.1, (u1, u2, u3, u4)), R.2) (.returned (.iface 99 (.agg #[.slice a2 L2.length cap2, .int .i64 l2, .int .i64 (m : Int), .int .i64 A2, .int .i64 B2, .int .i64 C2, .int .i64 D2, .int .i64 o2, .int .i64 f2, .int .i64 u1, .int .i64 u2, .int .i64 u3, .int .i64 u4, .slice (some ⟨wb, 0, none⟩) 1 1])))) := yz (by
   rw [yy HR]
   exact .inr ⟨a2, cap2, wb, [xd], rfl, ay.kept (yy HC5) hx, (yy HW5).kept hx, by simp, by intro x hx; rw [List.mem_singleton] at hx; subst hx; omega, fX _ _⟩)
  have HB6 := yz (ak (yy HAB) hx)
  clear hx
  refine hK.out _ _ (yy HKS _ (yy HV6)) (fun hHeld3 => ?_)
  clear hK K hHeld2
  refine af 9 rfl fun K hK => ?_
  go_simp
  refine hK.out _ _ (yy HKS _ (yy HV6)) (fun hHeld4 => ?_)
  clear hK K hHeld3
  refine wpAnyH_done (by kernel_rfl) ?_ _
  clear hHeld4
  go_wp2_with fail
  go_ret
  exact ⟨yy HA, yy HB6⟩
 ·obtain ⟨k, rfl⟩ := Int.eq_ofNat_of_zero_le hsp.1
  have hc' : (k : Int) ≠ 0 := hc
  rw [if_neg hc', Int.toNat_natCast] at HR
  refine af 8 rfl fun K hK => ?_
  go_simp
  refine (dH a2 L2.length cap2 l2 (m : Int) A2 B2 C2 D2 o2 f2 u1 u2 u3 u4 (k : Int) (some ⟨wb, 0, none⟩) 1 1 W5 hc').mono ?_
  rintro e V6 ⟨rfl, hx⟩
  have HV6 := yz (ak (yy HV5) hx)
  have HA : Hid (Ans V6 B (⟨L, lim, mode, A, B', C, D, coast, fr⟩, (u1, u2, u3, u4)) ((R.1, (u1, u2, u3, u4)), R.2) (.returned (.iface 178 (.agg #[.int .i64 (k : Int)])))) := yz (by
   rw [yy HR]
   exact .inl ⟨k, by omega, by omega, rfl, rfl⟩)
  have HB6 := yz (ak (yy HAB) hx)
  clear hx
  refine hK.out _ _ (yy HKS _ (yy HV6)) (fun hHeld3 => ?_)
  clear hK K hHeld2
  refine af 9 rfl fun K hK => ?_
  go_simp
  refine hK.out _ _ (yy HKS _ (yy HV6)) (fun hHeld4 => ?_)
  clear hK K hHeld3
  refine wpAnyH_done (by kernel_rfl) ?_ _
  clear hHeld4
  go_wp2_with fail
  go_ret
  exact ⟨yy HA, yy HB6⟩
theorem pR (w : World) (B : Nat) (t : Tk) (u : U4) (a : Option Addr) (cap : Nat) (p : Addr) (tx : ByteArray) (n : Int) (hk : ax t = true) (hB : B ≤ w.heap.size) (hC : ay w B t.L a cap) (hE : fC p w) :
  Calls Tryz.prog 87 #[.agg #[.slice a t.L.length cap, .int .i64 t.lim, .int .i64 t.mode, .int .i64 t.A, .int .i64 t.B, .int .i64 t.C, .int .i64 t.D, .int .i64 t.coast, .int .i64 t.fr, .int .i64 u.1, .int .i64 u.2.1, .int .i64 u.2.2.1, .int .i64 u.2.2.2], .agg #[.string tx, .int .i64 n]] w fun e w' => Ans w' B (t, u) (((dL t []).1, u), (dL t []).2) e ∧ Below w.heap.size w w' := by
 have HZ := yz (aH w (.cells #[.slice a t.L.length cap, .int .i64 t.lim, .int .i64 t.mode, .int .i64 t.A, .int .i64 t.B, .int .i64 t.C, .int .i64 t.D, .int .i64 t.coast, .int .i64 t.fr, .int .i64 u.1, .int .i64 u.2.1, .int .i64 u.2.2.1, .int .i64 u.2.2.2] 61) (.cells #[.string tx, .int .i64 n] 90))
 have cL := yz (lC _ B t u a cap p [] none 0 (by decide) hk (Nat.le_trans hB (yy HZ).size) (hC.kept (yy HZ)) (hE.kept (yy HZ)) (.inl rfl) (fun y e => by cases e) (by decide) (by decide))
 generalize dL t [] = R at *
 obtain ⟨u1, u2, u3, u4⟩ := u
 obtain ⟨L, lim, mode, A, B', C, D, coast, fr⟩ := t
 dsimp only at cL HZ ⊢
 have HD := yz ((au w [.slice a L.length cap, .int .i64 lim, .int .i64 mode, .int .i64 A, .int .i64 B', .int .i64 C, .int .i64 D, .int .i64 coast, .int .i64 fr, .int .i64 u1, .int .i64 u2, .int .i64 u3, .int .i64 u4] 61).alloc (.cells #[.string tx, .int .i64 n] 90))
 clear hC hE hk
 obtain ⟨d0, d1, d2, d3, d4, d5, d6, d7, d8, d9, d10, d11, d12⟩ := sU (yy HD)
 go_enter Tryz.func87, Tryz.ntmps87
 go_wp2_with fail
 refine (yy cL).mono ?_
 rintro e W1 ⟨hA, hx⟩
 obtain ⟨v, rfl⟩ := hA.ret
 have HA := yz hA
 have HB1 := yz (ak (yy HZ) hx)
 clear hx hA d0 d1 d2 d3 d4 d5 d6 d7 d8 d9 d10 d11 d12
 go_wp2_with fail
 go_ret
 exact ⟨yy HA, yy HB1⟩
theorem ul {r : List UInt8} {l : Ln} (h : eL r = some l) : l.k ≤ 6 ∧ l.t.length ≤ r.length := by
 have hp : ∀ p ∈ pcs 32 r, p.length ≤ r.length := fun p hp => eX hp
 unfold eL at h
 split at h
 ·cases h
 ·rename_i w q e
  rw [e] at hp
  have T0 : ∀ {k : Nat}, k ≤ 6 → eA k q = some l → l.k ≤ 6 ∧ l.t.length ≤ r.length := by
   intro k hk h
   unfold eA at h
   split at h
   ·injection h with h; subst h; exact ⟨hk, Nat.zero_le _⟩
   ·cases h
  have T1 : ∀ {k : Nat}, k ≤ 6 → eU k q = some l → l.k ≤ 6 ∧ l.t.length ≤ r.length := by
   intro k hk h
   unfold eU at h
   split at h
   ·split at h
    ·cases h
    ·injection h with h; subst h; exact ⟨hk, hp _ (by simp)⟩
   ·cases h
  have T2 : ∀ {k : Nat}, k ≤ 6 → fy k q = some l → l.k ≤ 6 ∧ l.t.length ≤ r.length := by
   intro k hk h
   unfold fy at h
   split at h
   ·split at h
    ·injection h with h; subst h; exact ⟨hk, Nat.zero_le _⟩
    ·cases h
   ·cases h
  split at h
  ·exact T0 (by decide) h
  split at h
  ·exact T1 (by decide) h
  split at h
  ·exact T2 (by decide) h
  split at h
  ·exact T1 (by decide) h
  split at h
  ·exact T0 (by decide) h
  split at h
  ·exact T2 (by decide) h
  split at h
  ·exact T0 (by decide) h
  ·cases h
end
section
open Go.RowKit Go.Deep Go.ChangeShapes
theorem qR : (Rows.laid_internal_strconv_uint64pow10 : DataW Unit) = Lib.tabData .u64 Lib.pow10Tab := by kernel_rfl
theorem qS : (Tryz.prog.globals[4]?).map (·.type) = some 256 := by kernel_rfl
theorem we {W : World} (h : laidMetH Tryz.prog dS W) : Tab W := by
 have h' : laidMet Tryz.prog dS W := h
 obtain ⟨ps, ⟨g', t', cs, fuel, p, q, hg', ht', hvar, hd, _, _⟩, _⟩ := bZ (bZ h')
 rw [qR] at hd
 obtain rfl := Option.some.inj (lT.symm.trans hg')
 obtain rfl := Option.some.inj (qS.symm.trans ht')
 show Lib.TabIs _ _ _ _ _
 unfold Lib.TabIs
 rw [hvar, ← Lib.cells_of_tab Tryz.underlying256 Tryz.underlying64 (by kernel_rfl) (by kernel_rfl) hd]
end
end Go.Proofs.YtdchjcadhlkpfaaGreatDoor
