/- Several texts in one: Tz, Plain, BlM, MirM, MirN, Src, Bytes, Src2, Src3, VecMath, VecA, FrA, VecB, VecC. -/
import Derived.Deep.RegionHeld
import Derived.WalkKit
import Derived.Laws.BitsAllLaws
import Derived.Test.YtackifnnhjbgbaaRows
import Derived.WalkSpells
import Derived.WalkLawsBesides
import Derived.RegionTactic
import Derived.BigRegion
import Derived.Deep.QuietTactic
import Derived.BigQuiet
import Derived.OpenShut
import Derived.Lib.BufferWrite
import Derived.Lib.SlBytesRow
import Derived.Test.YtackifnnhjbgbaaChecked
import Derived.Below
import Derived.Laws.StructEq
import Derived.Lib.QuietBelow
namespace Go.Proofs.Ytackifnnhjbgbaa
set_option linter.unusedVariables false
set_option linter.unusedSimpArgs false
set_option maxRecDepth 100000
set_option maxHeartbeats 8000000
section
theorem aa {P : Program} {ops : Array Oper} {Q : Exit → Act → World → Prop} {md : Region.Mode} {S : World → Prop} {fuel : Nat} {listed : Array Bool} {a : Act} {w : World} (i : Nat) {oi : Oper} {v : Value} (hi : ops[i]? = some oi) (h : wpAnyH P md ops Q S fuel (listed.setIfInBounds i true) (a.put oi.dst v) w) (hs : Region.noSelect ops = true := by kernel_rfl) (hf : Region.free md ops listed i = true := by kernel_rfl) (hr : (Region.ready md ops listed).contains i = true := by kernel_rfl) (hQ : ∀ c a w, Q (.panic c) (a.put oi.dst v) w → Q (.panic c) a w := by exact fun _ _ _ h => h) (hw : Region.wanted oi (yielded ops a.tmps) = true := by kernel_rfl) (hy : ∀ w, S w → (execOp a.eval oi).run P w = .ok (.value v) w := by (intro W0 hSw; (try dsimp only at hSw); go_simp <;> with_reducible rfl)) (hS : S w := by assumption) : wpAnyH P md ops Q S (fuel + 1) listed a w := wpAnyH_take hi hs hf hr hQ (Or.inl ⟨hw, hy⟩) hS h
theorem ac {P : Program} {ops : Array Oper} {Q : Exit → Act → World → Prop} {md : Region.Mode} {S : World → Prop} {fuel : Nat} {listed : Array Bool} {a : Act} {w : World} (i : Nat) {o : Oper} (ho : ops[i]? = some o) (h : (∀ K' : Act → World → Prop, Shut (∀ a w, S w → (S w → wpAnyH P md ops Q S fuel (listed.setIfInBounds i true) a w) → K' a w) → if Region.wanted o (yielded ops a.tmps) = true then Oper.wp P o a w K' Q else K' (a.put o.dst undef) w)) (hr : Region.ready md ops listed = [i] := by kernel_rfl) : wpAnyH P md ops Q S (fuel + 1) listed a w := wpAnyH_ready hr (by simp) (AllReadyH.cons ho h AllReadyH.nil)
theorem ae {P : Program} {ops : Array Oper} {Q : Exit → Act → World → Prop} {md : Region.Mode} {S : World → Prop} {fuel : Nat} {listed : Array Bool} {a : Act} {w : World} (i j : Nat) {o u : Oper} (ho : ops[i]? = some o) (h : (∀ K' : Act → World → Prop, Shut (∀ a w, S w → (S w → wpAnyH P md ops Q S fuel (listed.setIfInBounds i true) a w) → K' a w) → if Region.wanted o (yielded ops a.tmps) = true then Oper.wp P o a w K' Q else K' (a.put o.dst undef) w)) (hu : ops[j]? = some u) (g : (∀ K' : Act → World → Prop, Shut (∀ a w, S w → (S w → wpAnyH P md ops Q S fuel (listed.setIfInBounds j true) a w) → K' a w) → if Region.wanted u (yielded ops a.tmps) = true then Oper.wp P u a w K' Q else K' (a.put u.dst undef) w)) (hr : Region.ready md ops listed = [i, j] := by kernel_rfl) : wpAnyH P md ops Q S (fuel + 1) listed a w := wpAnyH_ready hr (by simp) (AllReadyH.cons ho h (AllReadyH.cons hu g AllReadyH.nil))
theorem ag {α : Type} (i : Nat) (x : α) (l : List α) : l.toArray.setIfInBounds i x = (l.set i x).toArray := List.setIfInBounds_toArray ..
theorem ah {α : Type} (x y : α) (l : List α) : (x :: l).set 0 y = y :: l := rfl
theorem ai {α : Type} (x y : α) (l : List α) (n : Nat) : (x :: l).set (n + 1) y = x :: l.set n y := rfl
end
section
open Go.RowKit
theorem yz {p : Prop} (h : p) : Hid p := h
theorem yx {p : Prop} (h : Hid p) : p := h
def step (r : Nat) : Nat := if r % 2 = 1 then (r / 2) ^^^ 3988292384 else r / 2
def ao (s : ByteArray) (i : Nat) : Nat := if h : i < s.size then s[i].toNat else 0
theorem aU {s : ByteArray} {k : Nat} (h : k < s.size) : ao s k = s[k].toNat := by simp [ao, h]
theorem eL (s : ByteArray) (k : Nat) : ao s k < 256 := by
 unfold ao
 split
 ·exact UInt8.toNat_lt _
 ·omega
end
section
structure Fr where
 wd : Nat
 ht : Nat
 px : Nat → Nat
 lv : Int
def Fr.n (f : Fr) : Nat := f.wd * f.ht
def bH (f : Fr) (T : Nat → Bool) (i : Nat) : Bool := decide (f.lv < (f.px i : Int)) && !T i
def mark (T : Nat → Bool) (i : Nat) : Nat → Bool := fun j => if j = i then true else T j
def aE (f : Fr) (i : Nat) : List Nat :=
 (if 0 < i % f.wd then [i - 1] else []) ++ (if i % f.wd < f.wd - 1 then [i + 1] else []) ++ (if 0 < i / f.wd then [i - f.wd] else []) ++ (if i / f.wd < f.ht - 1 then [i + f.wd] else [])
def bo (f : Fr) (s : (Nat → Bool) × List Nat) (j : Nat) : (Nat → Bool) × List Nat := if bH f s.1 j = true then (mark s.1 j, s.2 ++ [j]) else s
def aO (f : Fr) (s : (Nat → Bool) × List Nat) (l : List Nat) : (Nat → Bool) × List Nat := l.foldl (bo f) s
def am (f : Fr) (T : Nat → Bool) (i : Nat) : Nat → (Nat → Bool) × List Nat
 | 0 => (mark T i, [i])
 | k + 1 => if k < (am f T i k).2.length then aO f (am f T i k) (aE f ((am f T i k).2.getD k 0)) else am f T i k
def cnt (T : Nat → Bool) : Nat → Nat
 | 0 => 0
 | n + 1 => cnt T n + if T n = true then 1 else 0
theorem ix (T : Nat → Bool) : ∀ n, cnt T n ≤ n
 | 0 => Nat.le_refl _
 | n + 1 => by unfold cnt; have := ix T n; split <;> omega
theorem dC (T : Nat → Bool) (i : Nat) : ∀ n, n ≤ i → cnt (mark T i) n = cnt T n
 | 0, _ => rfl
 | n + 1, h => by
  have e : mark T i n = T n := by unfold mark; rw [if_neg (by omega)]
  unfold cnt
  rw [dC T i n (by omega), e]
theorem dW (T : Nat → Bool) (i : Nat) (hT : T i = false) : ∀ n, i < n → cnt (mark T i) n = cnt T n + 1
 | 0, h => absurd h (Nat.not_lt_zero _)
 | n + 1, h => by
  unfold cnt
  by_cases e : i = n
  ·subst e
   rw [dC T i i (Nat.le_refl _), hT]
   simp [mark]
  ·have e2 : mark T i n = T n := by unfold mark; rw [if_neg (by omega)]
   rw [dW T i hT n (by omega), e2]
   omega
structure eC (f : Fr) (c : Nat) (s : (Nat → Bool) × List Nat) : Prop where
 num : cnt s.1 f.n = c + s.2.length
 lies : ∀ j ∈ s.2, j < f.n
theorem eC.len {f : Fr} {c : Nat} {s : (Nat → Bool) × List Nat} (h : eC f c s) : c + s.2.length ≤ f.n := by rw [← h.num]; exact ix _ _
theorem eh {f : Fr} {T : Nat → Bool} {j : Nat} (h : bH f T j = true) : f.lv < (f.px j : Int) ∧ T j = false := by
 unfold bH at h
 rw [Bool.and_eq_true] at h
 exact ⟨of_decide_eq_true h.1, by simpa using h.2⟩
theorem gI {f : Fr} {c : Nat} {s : (Nat → Bool) × List Nat} (h : eC f c s) {j : Nat} (hj : j < f.n) : eC f c (bo f s j) := by
 unfold bo
 split
 ·rename_i hl
  refine ⟨?_, ?_⟩
  ·show cnt (mark s.1 j) f.n = _
   rw [dW _ _ (eh hl).2 _ hj, h.num]
   simp
   omega
  ·intro q hq
   rw [List.mem_append] at hq
   rcases hq with hq | hq
   ·exact h.lies q hq
   ·rw [List.mem_singleton.1 hq]; exact hj
 ·exact h
theorem en {f : Fr} {c : Nat} (l : List Nat) : ∀ {s : (Nat → Bool) × List Nat}, eC f c s → (∀ j ∈ l, j < f.n) → eC f c (aO f s l) := by
 induction l with
 | nil => intro s h _; exact h
 | cons x l ih => intro s h hl; exact ih (gI h (hl x (by simp))) (fun j hj => hl j (by simp [hj]))
theorem de {f : Fr} {i : Nat} (hi : i < f.n) : ∀ j ∈ aE f i, j < f.n := by
 intro j hj
 have hw : 0 < f.wd := by
  rcases Nat.eq_zero_or_pos f.wd with h | h
  ·rw [Fr.n, h, Nat.zero_mul] at hi; omega
  ·exact h
 have hdm := Nat.div_add_mod i f.wd
 have hmod := Nat.mod_lt i hw
 have hdiv : i / f.wd < f.ht := Nat.div_lt_of_lt_mul hi
 unfold aE at hj
 simp only [List.mem_append] at hj
 rcases hj with ((hj | hj) | hj) | hj
 ·by_cases h : 0 < i % f.wd
  ·rw [if_pos h] at hj; rw [List.mem_singleton.1 hj]; omega
  ·rw [if_neg h] at hj; cases hj
 ·by_cases h : i % f.wd < f.wd - 1
  ·rw [if_pos h] at hj
   rw [List.mem_singleton.1 hj]
   have h2 : f.wd * (i / f.wd + 1) ≤ f.wd * f.ht := Nat.mul_le_mul_left _ hdiv
   rw [Nat.mul_add, Nat.mul_one] at h2
   show i + 1 < f.wd * f.ht
   omega
  ·rw [if_neg h] at hj; cases hj
 ·by_cases h : 0 < i / f.wd
  ·rw [if_pos h] at hj; rw [List.mem_singleton.1 hj]; omega
  ·rw [if_neg h] at hj; cases hj
 ·by_cases h : i / f.wd < f.ht - 1
  ·rw [if_pos h] at hj
   rw [List.mem_singleton.1 hj]
   have h3 : i / f.wd + 1 + 1 ≤ f.ht := by
    generalize i / f.wd = q at *
    omega
   have h2 : f.wd * (i / f.wd + 1 + 1) ≤ f.wd * f.ht := Nat.mul_le_mul_left _ h3
   rw [Nat.mul_add, Nat.mul_add, Nat.mul_one] at h2
   show i + f.wd < f.wd * f.ht
   omega
  ·rw [if_neg h] at hj; cases hj
theorem bT {f : Fr} {T : Nat → Bool} {i : Nat} (hi : i < f.n) (hT : T i = false) : ∀ k, eC f (cnt T f.n) (am f T i k)
 | 0 => ⟨by show cnt (mark T i) f.n = _; rw [dW _ _ hT _ hi]; rfl, fun j hj => by rw [List.mem_singleton.1 hj]; exact hi⟩
 | k + 1 => by
  have ih := bT hi hT k
  unfold am
  split
  ·rename_i h
   refine en _ ih (de (ih.lies _ ?_))
   rw [List.getD, List.getElem?_eq_getElem h]
   exact List.getElem_mem h
  ·exact ih
theorem fg (f : Fr) (s : (Nat → Bool) × List Nat) (j : Nat) : s.2 <+: (bo f s j).2 := by
 unfold bo
 split
 ·exact ⟨[j], rfl⟩
 ·exact List.prefix_refl _
theorem eV (f : Fr) (l : List Nat) : ∀ s : (Nat → Bool) × List Nat, s.2 <+: (aO f s l).2 := by
 induction l with
 | nil => intro s; exact List.prefix_refl _
 | cons x l ih => intro s; exact (fg f s x).trans (ih _)
theorem dx (f : Fr) (T : Nat → Bool) (i k : Nat) : (am f T i k).2 <+: (am f T i (k + 1)).2 := by
 rw [am]
 split
 ·exact eV _ _ _
 ·exact List.prefix_refl _
theorem eb {f : Fr} {T : Nat → Bool} {i k : Nat} (h : (am f T i k).2.length ≤ k) : ∀ m, am f T i (k + m) = am f T i k
 | 0 => rfl
 | m + 1 => by
  have ih := eb h m
  rw [← Nat.add_assoc, am, ih, if_neg (by omega)]
def aB (f : Fr) (T : Nat → Bool) (i : Nat) : (Nat → Bool) × List Nat := am f T i f.n
theorem eK {f : Fr} {T : Nat → Bool} {i k : Nat} (hi : i < f.n) (hT : T i = false) (hk : (am f T i k).2.length ≤ k) (hkn : k ≤ f.n) : am f T i k = aB f T i := by
 unfold aB
 rw [← eb hk (f.n - k), show k + (f.n - k) = f.n by omega]
structure Bl where
 ar : Nat
 su : Nat
 sx : Nat
 sy : Nat
 ed : Bool
def aP (f : Fr) (i : Nat) : Bool := decide (i % f.wd = 0) || decide (i / f.wd = 0) || decide (i % f.wd = f.wd - 1) || decide (i / f.wd = f.ht - 1)
def cJ (f : Fr) (b : Bl) (i : Nat) : Bl := ⟨b.ar + 1, b.su + f.px i, b.sx + f.px i * (i % f.wd), b.sy + f.px i * (i / f.wd), b.ed || aP f i⟩
def aX (f : Fr) (l : List Nat) : Bl := l.foldl (cJ f) ⟨0, 0, 0, 0, false⟩
theorem fc (f : Fr) (l : List Nat) (i : Nat) : aX f (l ++ [i]) = cJ f (aX f l) i := by unfold aX; rw [List.foldl_append]; rfl
def ak (f : Fr) : Nat → (Nat → Bool) × List Bl
 | 0 => (fun _ => false, [])
 | i + 1 => if bH f (ak f i).1 i = true then ((aB f (ak f i).1 i).1, (ak f i).2 ++ [aX f (aB f (ak f i).1 i).2]) else ak f i
theorem eY (f : Fr) (i : Nat) : ∀ m, (ak f i).2.length ≤ (ak f (i + m)).2.length
 | 0 => Nat.le_refl _
 | m + 1 => by
  refine Nat.le_trans (eY f i m) ?_
  rw [← Nat.add_assoc, ak]
  split
  ·simp
  ·exact Nat.le_refl _
theorem cN (f : Fr) : ∀ i, (ak f i).2.length ≤ i
 | 0 => Nat.le_refl _
 | i + 1 => by
  have := cN f i
  rw [ak]
  split
  ·simp; omega
  ·omega
theorem dZ {f : Fr} (hw : f.wd ≤ 16) (hh : f.ht ≤ 12) (hp : ∀ i, f.px i < 256) : ∀ (l : List Nat) (b : Bl), (∀ j ∈ l, j < f.n) → (l.foldl (cJ f) b).ar = b.ar + l.length ∧ (l.foldl (cJ f) b).su ≤ b.su + 255 * l.length ∧ (l.foldl (cJ f) b).sx ≤ b.sx + 3825 * l.length ∧ (l.foldl (cJ f) b).sy ≤ b.sy + 2805 * l.length
 | [], b, _ => ⟨rfl, Nat.le_refl _, Nat.le_refl _, Nat.le_refl _⟩
 | i :: l, b, hl => by
  obtain ⟨h1, h2, h3, h4⟩ := dZ hw hh hp l (cJ f b i) (fun j hj => hl j (by simp [hj]))
  have hi := hl i (by simp)
  have hpi := hp i
  have hw0 : 0 < f.wd := by
   rcases Nat.eq_zero_or_pos f.wd with h | h
   ·rw [Fr.n, h, Nat.zero_mul] at hi; omega
   ·exact h
  have hm := Nat.mod_lt i hw0
  have hd : i / f.wd < f.ht := Nat.div_lt_of_lt_mul hi
  have m1 : f.px i * (i % f.wd) ≤ 255 * 15 := Nat.mul_le_mul (by omega) (by omega)
  have m2 : f.px i * (i / f.wd) ≤ 255 * 11 := Nat.mul_le_mul (by omega) (by omega)
  rw [List.foldl_cons, List.length_cons]
  unfold cJ at h1 h2 h3 h4 ⊢
  simp only at h1 h2 h3 h4 ⊢
  refine ⟨by omega, by omega, by omega, by omega⟩
theorem dB {f : Fr} (hw : f.wd ≤ 16) (hh : f.ht ≤ 12) (hp : ∀ i, f.px i < 256) (l : List Nat) (hl : ∀ j ∈ l, j < f.n) : (aX f l).ar = l.length ∧ (aX f l).su ≤ 255 * l.length ∧ (aX f l).sx ≤ 3825 * l.length ∧ (aX f l).sy ≤ 2805 * l.length := by
 have := dZ hw hh hp l ⟨0, 0, 0, 0, false⟩ hl
 simpa [aX] using this
def Lit (f : Fr) (j : Nat) : Prop := j < f.n ∧ f.lv < (f.px j : Int)
theorem cY {f : Fr} {T : Nat → Bool} {j : Nat} (hj : j < f.n) : bH f T j = true ↔ Lit f j ∧ T j = false := by
 unfold bH Lit
 rw [Bool.and_eq_true, decide_eq_true_iff, Bool.not_eq_true']
 exact ⟨fun h => ⟨⟨hj, h.1⟩, h.2⟩, fun h => ⟨h.1.2, h.2⟩⟩
inductive Rch (f : Fr) (i : Nat) : Nat → Prop
 | refl : Rch f i i
 | step {j k : Nat} : Rch f i j → k ∈ aE f j → Lit f k → Rch f i k
theorem Rch.trans {f : Fr} {i j k : Nat} (h : Rch f i j) (h2 : Rch f j k) : Rch f i k := by
 induction h2 with
 | refl => exact h
 | step _ hk hl ih => exact ih.step hk hl
theorem hQ {f : Fr} {i j : Nat} : j ∈ aE f i ↔ (0 < i % f.wd ∧ j = i - 1) ∨ (i % f.wd < f.wd - 1 ∧ j = i + 1) ∨ (0 < i / f.wd ∧ j = i - f.wd) ∨ (i / f.wd < f.ht - 1 ∧ j = i + f.wd) := by
 unfold aE
 simp only [List.mem_append]
 constructor
 ·rintro (((h | h) | h) | h)
  ·by_cases c : 0 < i % f.wd
   ·rw [if_pos c] at h; exact .inl ⟨c, List.mem_singleton.1 h⟩
   ·rw [if_neg c] at h; cases h
  ·by_cases c : i % f.wd < f.wd - 1
   ·rw [if_pos c] at h; exact .inr (.inl ⟨c, List.mem_singleton.1 h⟩)
   ·rw [if_neg c] at h; cases h
  ·by_cases c : 0 < i / f.wd
   ·rw [if_pos c] at h; exact .inr (.inr (.inl ⟨c, List.mem_singleton.1 h⟩))
   ·rw [if_neg c] at h; cases h
  ·by_cases c : i / f.wd < f.ht - 1
   ·rw [if_pos c] at h; exact .inr (.inr (.inr ⟨c, List.mem_singleton.1 h⟩))
   ·rw [if_neg c] at h; cases h
 ·rintro (⟨c, rfl⟩ | ⟨c, rfl⟩ | ⟨c, rfl⟩ | ⟨c, rfl⟩)
  ·rw [if_pos c]; exact .inl (.inl (.inl (List.mem_singleton.2 rfl)))
  ·rw [if_pos c]; exact .inl (.inl (.inr (List.mem_singleton.2 rfl)))
  ·rw [if_pos c]; exact .inl (.inr (List.mem_singleton.2 rfl))
  ·rw [if_pos c]; exact .inr (List.mem_singleton.2 rfl)
theorem eW {w x y : Nat} (hx : x < w) : (y * w + x) % w = x ∧ (y * w + x) / w = y := by
 constructor
 ·rw [Nat.add_comm, Nat.add_mul_mod_self_right]; exact Nat.mod_eq_of_lt hx
 ·rw [Nat.add_comm, Nat.add_mul_div_right _ _ (by omega), Nat.div_eq_of_lt hx]; omega
theorem cp {w i : Nat} (hw : 0 < w) : ∃ x y, x < w ∧ i = y * w + x := ⟨i % w, i / w, Nat.mod_lt _ hw, by rw [Nat.mul_comm]; exact (Nat.div_add_mod i w).symm⟩
theorem eu {w h x y : Nat} (hx : x < w) : y * w + x < w * h ↔ y < h := by
 constructor
 ·intro g
  rcases Nat.lt_or_ge y h with c | c
  ·exact c
  ·have := Nat.mul_le_mul_right w c
   rw [Nat.mul_comm h w] at this
   omega
 ·intro g
  have h1 : (y + 1) * w ≤ h * w := Nat.mul_le_mul_right w g
  rw [Nat.add_mul, Nat.one_mul, Nat.mul_comm h w] at h1
  omega
theorem bf {f : Fr} {x y j : Nat} (hx : x < f.wd) : j ∈ aE f (y * f.wd + x) ↔ (0 < x ∧ j = y * f.wd + (x - 1)) ∨ (x + 1 < f.wd ∧ j = y * f.wd + (x + 1)) ∨ (0 < y ∧ j = (y - 1) * f.wd + x) ∨ (y + 1 < f.ht ∧ j = (y + 1) * f.wd + x) := by
 rw [hQ, (eW hx).1, (eW hx).2]
 have e1 : (y + 1) * f.wd = y * f.wd + f.wd := by rw [Nat.add_mul, Nat.one_mul]
 have e2 : 0 < y → (y - 1) * f.wd + f.wd = y * f.wd := fun h => by
  have : (y - 1 + 1) * f.wd = (y - 1) * f.wd + f.wd := by rw [Nat.add_mul, Nat.one_mul]
  rw [← this, show y - 1 + 1 = y by omega]
 rw [e1]
 constructor
 ·rintro (⟨c, rfl⟩ | ⟨c, rfl⟩ | ⟨c, rfl⟩ | ⟨c, rfl⟩)
  ·exact .inl ⟨c, by omega⟩
  ·exact .inr (.inl ⟨by omega, by omega⟩)
  ·have := e2 c; exact .inr (.inr (.inl ⟨c, by omega⟩))
  ·exact .inr (.inr (.inr ⟨by omega, by omega⟩))
 ·rintro (⟨c, rfl⟩ | ⟨c, rfl⟩ | ⟨c, rfl⟩ | ⟨c, rfl⟩)
  ·exact .inl ⟨c, by omega⟩
  ·exact .inr (.inl ⟨by omega, by omega⟩)
  ·have := e2 c; exact .inr (.inr (.inl ⟨c, by omega⟩))
  ·exact .inr (.inr (.inr ⟨by omega, by omega⟩))
theorem eA {f : Fr} {i : Nat} (hi : i < f.n) : 0 < f.wd := by
 rcases Nat.eq_zero_or_pos f.wd with h | h
 ·rw [Fr.n, h, Nat.zero_mul] at hi; omega
 ·exact h
theorem hZ {f : Fr} {i j : Nat} (hi : i < f.n) (h : j ∈ aE f i) : i ∈ aE f j := by
 obtain ⟨x, y, hx, rfl⟩ := cp (i := i) (eA hi)
 have hy := (eu (h := f.ht) hx).1 hi
 rw [bf hx] at h
 rcases h with ⟨c, rfl⟩ | ⟨c, rfl⟩ | ⟨c, rfl⟩ | ⟨c, rfl⟩
 ·rw [bf (by omega)]; exact .inr (.inl ⟨by omega, by rw [show x - 1 + 1 = x by omega]⟩)
 ·rw [bf (by omega)]; exact .inl ⟨by omega, by rw [show x + 1 - 1 = x by omega]⟩
 ·rw [bf hx]; exact .inr (.inr (.inr ⟨by omega, by rw [show y - 1 + 1 = y by omega]⟩))
 ·rw [bf hx]; exact .inr (.inr (.inl ⟨by omega, by rw [show y + 1 - 1 = y by omega]⟩))
theorem Rch.lit {f : Fr} {i j : Nat} (hi : Lit f i) (h : Rch f i j) : Lit f j := by
 cases h with
 | refl => exact hi
 | step _ _ hl => exact hl
theorem Rch.symm {f : Fr} {i j : Nat} (hi : Lit f i) (h : Rch f i j) : Rch f j i := by
 induction h with
 | refl => exact .refl
 | step h1 hk hl ih =>
  have h2 := Rch.lit hi h1
  exact Rch.trans (Rch.step .refl (hZ h2.1 hk) h2) ih
def cV (f : Fr) (T : Nat → Bool) : Prop := ∀ j k, T j = true → k ∈ aE f j → Lit f k → T k = true
theorem cV.reach {f : Fr} {T : Nat → Bool} (h : cV f T) {i j : Nat} (hi : T i = true) (hr : Rch f i j) : T j = true := by
 induction hr with
 | refl => exact hi
 | step _ hk hl ih => exact h _ _ ih hk hl
structure eI (f : Fr) (T : Nat → Bool) (i k : Nat) (s : (Nat → Bool) × List Nat) : Prop where
 taken : ∀ j, s.1 j = true ↔ T j = true ∨ j ∈ s.2
 once : s.2.Nodup
 apart : ∀ j ∈ s.2, T j = false
 found : ∀ j ∈ s.2, Lit f j ∧ Rch f i j
 done : ∀ q, q < k → q < s.2.length → ∀ j ∈ aE f (s.2.getD q 0), Lit f j → s.1 j = true
theorem gp {f : Fr} {T : Nat → Bool} {i : Nat} {s : (Nat → Bool) × List Nat} (k : Nat) (h : eI f T i k s) {p j : Nat} (hp : p ∈ s.2) (hj : j ∈ aE f p) (hn : j < f.n) (hk : k ≤ s.2.length) :
  eI f T i k (bo f s j) ∧ (Lit f j → (bo f s j).1 j = true) ∧ (∀ q, s.1 q = true → (bo f s j).1 q = true) := by
 unfold bo
 split
 ·rename_i hl
  rw [cY hn] at hl
  have hnot : ¬ (T j = true ∨ j ∈ s.2) := fun c => by have := (h.taken j).2 c; rw [hl.2] at this; cases this
  refine ⟨⟨?_, ?_, ?_, ?_, ?_⟩, ?_, ?_⟩
  ·intro q
   show mark s.1 j q = true ↔ _
   unfold mark
   by_cases e : q = j
   ·rw [if_pos e]; exact ⟨fun _ => .inr (by simp [e]), fun _ => rfl⟩
   ·rw [if_neg e, h.taken q]; simp [e]
  ·show (s.2 ++ [j]).Nodup
   rw [List.nodup_append]
   refine ⟨h.once, by simp, ?_⟩
   intro a ha b hb e
   rw [List.mem_singleton.1 hb] at e
   rw [e] at ha
   exact hnot (.inr ha)
  ·intro q hq
   rcases List.mem_append.1 hq with hq | hq
   ·exact h.apart q hq
   ·rw [List.mem_singleton.1 hq]
    cases c : T j
    ·rfl
    ·exact absurd (.inl c) hnot
  ·intro q hq
   rcases List.mem_append.1 hq with hq | hq
   ·exact h.found q hq
   ·rw [List.mem_singleton.1 hq]
    exact ⟨hl.1, (h.found p hp).2.step hj hl.1⟩
  ·intro q hq hq2 z hz hlz
   have hq3 : q < s.2.length := by omega
   have e : (s.2 ++ [j]).getD q 0 = s.2.getD q 0 := by
    rw [List.getD, List.getD, List.getElem?_append_left hq3]
   have hz' : z ∈ aE f (s.2.getD q 0) := by rw [← e]; exact hz
   have := h.done q hq hq3 z hz' hlz
   show mark s.1 j z = true
   unfold mark
   split
   ·rfl
   ·exact this
  ·intro _
   show mark s.1 j j = true
   unfold mark
   rw [if_pos rfl]
  ·intro q hq
   show mark s.1 j q = true
   unfold mark
   split
   ·rfl
   ·exact hq
 ·rename_i hl
  refine ⟨h, fun c => ?_, fun _ hq => hq⟩
  cases e : s.1 j
  ·exact absurd ((cY hn).2 ⟨c, e⟩) hl
  ·rfl
theorem ec {f : Fr} {T : Nat → Bool} {i : Nat} (k p : Nat) : ∀ (l : List Nat) {s : (Nat → Bool) × List Nat}, eI f T i k s → p ∈ s.2 → (∀ j ∈ l, j ∈ aE f p) → (∀ j ∈ l, j < f.n) → k ≤ s.2.length →
  eI f T i k (aO f s l) ∧ (∀ j ∈ l, Lit f j → (aO f s l).1 j = true) ∧ (∀ q, s.1 q = true → (aO f s l).1 q = true)
 | [], s, h, _, _, _, _ => ⟨h, fun j hj => (by cases hj), fun _ hq => hq⟩
 | x :: l, s, h, hp, hl, hn, hk => by
  obtain ⟨h1, h2, h3⟩ := gp k h hp (hl x (by simp)) (hn x (by simp)) hk
  have hpre := fg f s x
  have hp' : p ∈ (bo f s x).2 := hpre.subset hp
  obtain ⟨g1, g2, g3⟩ := ec k p l h1 hp' (fun j hj => hl j (by simp [hj])) (fun j hj => hn j (by simp [hj])) (Nat.le_trans hk hpre.length_le)
  refine ⟨g1, fun j hj hlj => ?_, fun q hq => g3 q (h3 q hq)⟩
  rcases List.mem_cons.1 hj with e | hj
  ·rw [e] at hlj ⊢
   exact g3 x (h2 hlj)
  ·exact g2 j hj hlj
theorem eQ {f : Fr} {T : Nat → Bool} {i : Nat} (hi : Lit f i) (hT : T i = false) : ∀ k, eI f T i k (am f T i k)
 | 0 => by
  refine ⟨fun j => ?_, by simp [am], fun j hj => ?_, fun j hj => ?_, fun q hq => absurd hq (Nat.not_lt_zero _)⟩
  ·show mark T i j = true ↔ T j = true ∨ j ∈ [i]
   unfold mark
   by_cases e : j = i
   ·rw [if_pos e]; exact ⟨fun _ => .inr (by simp [e]), fun _ => rfl⟩
   ·rw [if_neg e]; simp [e]
  ·rw [List.mem_singleton.1 hj]; exact hT
  ·rw [List.mem_singleton.1 hj]; exact ⟨hi, .refl⟩
 | k + 1 => by
  have ih := eQ hi hT k
  unfold am
  split
  ·rename_i hk
   have hp : (am f T i k).2.getD k 0 ∈ (am f T i k).2 := by
    rw [List.getD, List.getElem?_eq_getElem hk]
    exact List.getElem_mem hk
   have hpn := (ih.found _ hp).1.1
   obtain ⟨g1, g2, g3⟩ := ec k _ (aE f ((am f T i k).2.getD k 0)) ih hp (fun _ hj => hj) (de hpn) (by omega)
   refine ⟨g1.taken, g1.once, g1.apart, g1.found, fun q hq hq2 j hj hl => ?_⟩
   rcases Nat.lt_or_ge q k with c | c
   ·exact g1.done q c hq2 j hj hl
   ·have e : q = k := by omega
    subst e
    have e2 : (aO f (am f T i q) (aE f ((am f T i q).2.getD q 0))).2.getD q 0 = (am f T i q).2.getD q 0 := by
     obtain ⟨r, hr⟩ := eV f (aE f ((am f T i q).2.getD q 0)) (am f T i q)
     rw [← hr, List.getD, List.getElem?_append_left hk]
     rfl
    rw [e2] at hj
    exact g2 j hj hl
  ·rename_i hk
   exact ⟨ih.taken, ih.once, ih.apart, ih.found, fun q hq hq2 => ih.done q (by omega) hq2⟩
theorem ia {n : Nat} : ∀ {l : List Nat}, l.Nodup → (∀ j ∈ l, j < n) → l.length ≤ n := by
 induction n with
 | zero =>
  intro l _ h
  cases l with
  | nil => exact Nat.le_refl _
  | cons x l => exact absurd (h x (by simp)) (Nat.not_lt_zero _)
 | succ n ih =>
  intro l hn h
  have h1 : (l.erase n).Nodup := hn.erase n
  have h2 : ∀ j ∈ l.erase n, j < n := fun j hj => by
   have := h j (List.mem_of_mem_erase hj)
   have hne : j ≠ n := fun e => by rw [e] at hj; exact (List.Nodup.not_mem_erase hn) hj
   omega
  have h3 := ih h1 h2
  have h4 := List.length_erase_le (a := n) (l := l)
  have h5 : l.length ≤ (l.erase n).length + 1 := by rw [List.length_erase]; split <;> omega
  omega
theorem it {f : Fr} {T : Nat → Bool} {i : Nat} (hi : Lit f i) (hT : T i = false) (hs : cV f T) :
  (∀ j, (aB f T i).1 j = true ↔ T j = true ∨ j ∈ (aB f T i).2) ∧ (aB f T i).2.Nodup ∧ (∀ j ∈ (aB f T i).2, T j = false) ∧ (∀ j, j ∈ (aB f T i).2 ↔ Rch f i j) ∧ cV f (aB f T i).1 := by
 have h : eI f T i f.n (aB f T i) := eQ hi hT f.n
 have hlen : (aB f T i).2.length ≤ f.n := ia h.once (fun j hj => (h.found j hj).1.1)
 have hshut : cV f (aB f T i).1 := by
  intro j k hj hk hl
  rcases (h.taken j).1 hj with c | c
  ·exact (h.taken k).2 (.inl (hs j k c hk hl))
  ·obtain ⟨q, hq, e⟩ := List.getElem_of_mem c
   refine h.done q (by omega) hq k ?_ hl
   rw [List.getD, List.getElem?_eq_getElem hq]
   show k ∈ aE f ((aB f T i).2[q])
   rw [e]
   exact hk
 refine ⟨h.taken, h.once, h.apart, fun j => ⟨fun hj => (h.found j hj).2, fun hr => ?_⟩, hshut⟩
 have hii : i ∈ (aB f T i).2 := by
  have : [i] <+: (aB f T i).2 := by
   have hp : ∀ k, [i] <+: (am f T i k).2 := by
    intro k
    induction k with
    | zero => exact List.prefix_refl _
    | succ k ih => exact ih.trans (dx f T i k)
   exact hp f.n
  exact this.subset (by simp)
 have h1 : (aB f T i).1 i = true := (h.taken i).2 (.inr hii)
 have h2 := cV.reach hshut h1 hr
 rcases (h.taken j).1 h2 with c | c
 ·have hj := Rch.lit hi hr
  have h3 := cV.reach hs c (Rch.symm hi hr)
  rw [hT] at h3
  cases h3
 ·exact c
def bm (f : Fr) : Nat → List Nat
 | 0 => []
 | i + 1 => if bH f (ak f i).1 i = true then bm f i ++ [i] else bm f i
def aY (f : Fr) : Nat → List (List Nat)
 | 0 => []
 | i + 1 => if bH f (ak f i).1 i = true then aY f i ++ [(aB f (ak f i).1 i).2] else aY f i
theorem br (f : Fr) : ∀ i, (ak f i).2 = (aY f i).map (aX f)
 | 0 => rfl
 | i + 1 => by
  unfold ak aY
  split
  ·rw [br f i, List.map_append]; rfl
  ·exact br f i
theorem bR (f : Fr) : ∀ i, (bm f i).length = (aY f i).length
 | 0 => rfl
 | i + 1 => by
  unfold bm aY
  split
  ·rw [List.length_append, List.length_append, bR f i]; rfl
  ·exact bR f i
structure jc (f : Fr) (i : Nat) : Prop where
 shut : cV f (ak f i).1
 taken : ∀ j, (ak f i).1 j = true ↔ j ∈ (aY f i).flatten
 once : (aY f i).flatten.Nodup
 islit : ∀ j ∈ (aY f i).flatten, Lit f j
 past : ∀ j, j < i → Lit f j → (ak f i).1 j = true
 seed : ∀ s ∈ bm f i, Lit f s ∧ (ak f i).1 s = true
 reach : ∀ j, (ak f i).1 j = true → ∃ s ∈ bm f i, Rch f s j
 apart : (bm f i).Pairwise (fun s t => ¬ Rch f s t)
theorem bJ (f : Fr) : ∀ i, i ≤ f.n → jc f i
 | 0, _ => ⟨fun j k h => (by cases h), fun j => (by simp [ak, aY]), (by simp [aY]), fun j hj => (by simp [aY] at hj), fun j hj => absurd hj (Nat.not_lt_zero _), fun s hs => (by simp [bm] at hs), fun j h => (by cases h), (by simp [bm])⟩
 | i + 1, hi => by
  have ih := bJ f i (by omega)
  by_cases hl : bH f (ak f i).1 i = true
  ·obtain ⟨hli, hTi⟩ := (cY (show i < f.n by omega)).1 hl
   obtain ⟨b1, b2, b3, b4, b5⟩ := it hli hTi ih.shut
   have e1 : (ak f (i + 1)).1 = (aB f (ak f i).1 i).1 := by rw [ak, if_pos hl]
   have e2 : aY f (i + 1) = aY f i ++ [(aB f (ak f i).1 i).2] := by rw [aY, if_pos hl]
   have e3 : bm f (i + 1) = bm f i ++ [i] := by rw [bm, if_pos hl]
   have e4 : (aY f (i + 1)).flatten = (aY f i).flatten ++ (aB f (ak f i).1 i).2 := by rw [e2, List.flatten_append]; simp
   refine ⟨by rw [e1]; exact b5, fun j => ?_, ?_, fun j hj => ?_, fun j hj hlj => ?_, fun s hs => ?_, fun j hj => ?_, ?_⟩
   ·rw [e1, e4, List.mem_append, ← ih.taken j]; exact b1 j
   ·rw [e4, List.nodup_append]
    refine ⟨ih.once, b2, ?_⟩
    intro a ha b hb e
    subst e
    have h1 := (ih.taken a).2 ha
    rw [b3 a hb] at h1
    cases h1
   ·rw [e4] at hj
    rcases List.mem_append.1 hj with c | c
    ·exact ih.islit j c
    ·exact Rch.lit hli ((b4 j).1 c)
   ·rw [e1, b1]
    rcases Nat.lt_or_ge j i with c | c
    ·exact .inl (ih.past j c hlj)
    ·have e : j = i := by omega
     subst e
     exact .inr ((b4 j).2 .refl)
   ·rw [e3] at hs
    rw [e1, b1]
    rcases List.mem_append.1 hs with c | c
    ·exact ⟨(ih.seed s c).1, .inl (ih.seed s c).2⟩
    ·rw [List.mem_singleton.1 c]; exact ⟨hli, .inr ((b4 i).2 .refl)⟩
   ·rw [e1, b1] at hj
    rw [e3]
    rcases hj with c | c
    ·obtain ⟨s, hs, hr⟩ := ih.reach j c
     exact ⟨s, List.mem_append_left _ hs, hr⟩
    ·exact ⟨i, by simp, (b4 j).1 c⟩
   ·rw [e3, List.pairwise_append]
    refine ⟨ih.apart, by simp, ?_⟩
    intro s hs t ht hr
    rw [List.mem_singleton.1 ht] at hr
    have := cV.reach ih.shut (ih.seed s hs).2 hr
    rw [hTi] at this
    cases this
  ·have e0 : ak f (i + 1) = ak f i := by rw [ak, if_neg hl]
   have e2 : aY f (i + 1) = aY f i := by rw [aY, if_neg hl]
   have e3 : bm f (i + 1) = bm f i := by rw [bm, if_neg hl]
   refine ⟨by rw [e0]; exact ih.shut, fun j => by rw [e0, e2]; exact ih.taken j, by rw [e2]; exact ih.once, fun j hj => by rw [e2] at hj; exact ih.islit j hj, fun j hj hlj => ?_, fun s hs => by rw [e3] at hs; rw [e0]; exact ih.seed s hs, fun j hj => by rw [e0] at hj; rw [e3]; exact ih.reach j hj, by rw [e3]; exact ih.apart⟩
   rw [e0]
   rcases Nat.lt_or_ge j i with c | c
   ·exact ih.past j c hlj
   ·have e : j = i := by omega
    subst e
    cases c2 : (ak f j).1 j
    ·exact absurd ((cY (show j < f.n by omega)).2 ⟨hlj, c2⟩) hl
    ·rfl
theorem jd (f : Fr) (j : Nat) : j ∈ (aY f f.n).flatten ↔ Lit f j :=
 ⟨(bJ f f.n (Nat.le_refl _)).islit j, fun h => ((bJ f f.n (Nat.le_refl _)).taken j).1 ((bJ f f.n (Nat.le_refl _)).past j h.1 h)⟩
theorem jB {R : Nat → Nat → Prop} (sym : ∀ {a b}, R a b → R b a) (tr : ∀ {a b c}, R a b → R b c → R a c) : ∀ (A B : List Nat), A.Pairwise (fun s t => ¬ R s t) → (∀ s ∈ A, ∃ t ∈ B, R s t) → A.length ≤ B.length
 | [], _, _, _ => Nat.zero_le _
 | s :: A, B, hp, hf => by
  obtain ⟨t, ht, hst⟩ := hf s (by simp)
  obtain ⟨B1, B2, rfl⟩ := List.append_of_mem ht
  rw [List.pairwise_cons] at hp
  have ih := jB (R := R) (fun h => sym h) (fun h g => tr h g) A (B1 ++ B2) hp.2 (fun s' hs' => by
   obtain ⟨t', ht', hr⟩ := hf s' (by simp [hs'])
   refine ⟨t', ?_, hr⟩
   rcases List.mem_append.1 ht' with c | c
   ·exact List.mem_append_left _ c
   ·rcases List.mem_cons.1 c with e | c
    ·rw [e] at hr
     exact absurd (tr hst (sym hr)) (hp.1 s' hs')
    ·exact List.mem_append_right _ c)
  simp only [List.length_append, List.length_cons] at ih ⊢
  omega
def mir (w i : Nat) : Nat := i / w * w + (w - 1 - i % w)
theorem aW {w x y : Nat} (hx : x < w) : mir w (y * w + x) = y * w + (w - 1 - x) := by unfold mir; rw [(eW hx).1, (eW hx).2]
theorem ct {w i : Nat} (hw : 0 < w) : mir w (mir w i) = i := by
 obtain ⟨x, y, hx, rfl⟩ := cp (i := i) hw
 rw [aW hx, aW (by omega)]
 omega
structure bZ (f g : Fr) : Prop where
 wd : g.wd = f.wd
 ht : g.ht = f.ht
 lv : g.lv = f.lv
 px : ∀ i, i < f.n → g.px i = f.px (mir f.wd i)
theorem fA {f : Fr} {i : Nat} (hi : i < f.n) : mir f.wd i < f.n := by
 obtain ⟨x, y, hx, rfl⟩ := cp (i := i) (eA hi)
 rw [aW hx]
 exact (eu (h := f.ht) (show f.wd - 1 - x < f.wd by omega)).2 ((eu (h := f.ht) hx).1 hi)
theorem bZ.n {f g : Fr} (h : bZ f g) : g.n = f.n := by unfold Fr.n; rw [h.wd, h.ht]
theorem bZ.symm {f g : Fr} (h : bZ f g) : bZ g f := ⟨h.wd.symm, h.ht.symm, h.lv.symm, fun i hi => by
 rw [h.n] at hi
 rw [h.wd, h.px _ (fA hi), ct (eA hi)]⟩
theorem bZ.lit {f g : Fr} (h : bZ f g) {i : Nat} (hi : Lit g i) : Lit f (mir f.wd i) := by
 have h1 : i < f.n := by rw [← h.n]; exact hi.1
 exact ⟨fA h1, by rw [← h.px i h1, ← h.lv]; exact hi.2⟩
theorem bZ.next {f g : Fr} (h : bZ f g) {i j : Nat} (hi : i < f.n) (hj : j ∈ aE g i) : mir f.wd j ∈ aE f (mir f.wd i) := by
 obtain ⟨x, y, hx, rfl⟩ := cp (i := i) (eA hi)
 have hx2 : x < g.wd := by rw [h.wd]; exact hx
 rw [show y * f.wd + x = y * g.wd + x by rw [h.wd], bf hx2, h.wd, h.ht] at hj
 rw [aW hx, bf (by omega)]
 rcases hj with ⟨c, rfl⟩ | ⟨c, rfl⟩ | ⟨c, rfl⟩ | ⟨c, rfl⟩
 ·rw [aW (by omega)]; exact .inr (.inl ⟨by omega, by omega⟩)
 ·rw [aW (by omega)]; exact .inl ⟨by omega, by omega⟩
 ·rw [aW hx]; exact .inr (.inr (.inl ⟨c, rfl⟩))
 ·rw [aW hx]; exact .inr (.inr (.inr ⟨c, rfl⟩))
theorem bZ.reach {f g : Fr} (h : bZ f g) {i j : Nat} (hi : Lit g i) (hr : Rch g i j) : Rch f (mir f.wd i) (mir f.wd j) := by
 induction hr with
 | refl => exact .refl
 | step h1 hk hl ih => exact ih.step (h.next (by rw [← h.n]; exact (Rch.lit hi h1).1) hk) (h.lit hl)
theorem eU {f g : Fr} (h : bZ f g) : (ak g g.n).2.length ≤ (ak f f.n).2.length := by
 have S := bJ g g.n (Nat.le_refl _)
 have F := bJ f f.n (Nat.le_refl _)
 rw [br, br, List.length_map, List.length_map, ← bR, ← bR]
 have hm := jB (R := fun a b => Lit f a ∧ Rch f a b) (fun {a b} h => ⟨Rch.lit h.1 h.2, Rch.symm h.1 h.2⟩) (fun {a b c} h1 h2 => ⟨h1.1, Rch.trans h1.2 h2.2⟩) ((bm g g.n).map (mir f.wd)) (bm f f.n) ?_ ?_
 ·rw [List.length_map] at hm; exact hm
 ·rw [List.pairwise_map]
  refine (List.Pairwise.and_mem.1 S.apart).imp ?_
  rintro s t ⟨hs, ht, hst⟩ hr
  have hs1 := (S.seed s hs).1
  have ht1 := (S.seed t ht).1
  have := bZ.reach h.symm hr.1 hr.2
  have hw : 0 < f.wd := eA (by rw [← h.n]; exact hs1.1)
  rw [h.wd, ct hw, ct hw] at this
  exact hst this
 ·intro s hs
  obtain ⟨s', hs', rfl⟩ := List.mem_map.1 hs
  have hl := h.lit (S.seed s' hs').1
  obtain ⟨t, ht, hr⟩ := F.reach _ (F.past _ hl.1 hl)
  exact ⟨t, ht, hl, Rch.symm (F.seed t ht).1 hr⟩
theorem gx {f g : Fr} (h : bZ f g) : (ak g g.n).2.length = (ak f f.n).2.length := Nat.le_antisymm (eU h) (eU h.symm)
def ax (h : Nat → Nat) : Nat → Nat
 | 0 => 0
 | n + 1 => ax h n + h n
theorem bL (h : Nat → Nat) : ∀ n, ((List.range n).map h).sum = ax h n
 | 0 => rfl
 | n + 1 => by rw [List.range_succ, List.map_append, List.sum_append, bL h n]; show ax h n + (h n + 0) = ax h n + h n; omega
def litB (f : Fr) (i : Nat) : Bool := decide (f.lv < (f.px i : Int))
def az (f : Fr) (h : Nat → Nat) (i : Nat) : Nat := if litB f i = true then h i else 0
theorem cT (p : Nat → Bool) (h : Nat → Nat) : ∀ l : List Nat, ((l.filter p).map h).sum = (l.map (fun i => if p i = true then h i else 0)).sum
 | [] => rfl
 | x :: l => by
  rw [List.filter_cons, List.map_cons, List.sum_cons]
  split
  ·rename_i c
   rw [List.map_cons, List.sum_cons, cT p h l]
  ·rw [cT p h l, Nat.zero_add]
theorem fB {l : List Nat} (p : Nat → Bool) (h : l.Nodup) : (l.filter p).Nodup := List.Pairwise.filter _ h
theorem fl (f : Fr) (h : Nat → Nat) : ((aY f f.n).flatten.map h).sum = ax (az f h) f.n := by
 have S := bJ f f.n (Nat.le_refl _)
 have hp : (aY f f.n).flatten.Perm ((List.range f.n).filter (litB f)) := by
  rw [List.perm_ext_iff_of_nodup S.once (fB _ List.nodup_range)]
  intro j
  rw [jd, List.mem_filter, List.mem_range]
  unfold Lit litB
  rw [decide_eq_true_iff]
 rw [(hp.map h).sum_nat, cT, ← bL]
 rfl
theorem cW (h : Nat → Nat) : ∀ L : List (List Nat), (L.flatten.map h).sum = (L.map (fun l => (l.map h).sum)).sum
 | [] => rfl
 | l :: L => by rw [List.flatten_cons, List.map_append, List.sum_append, cW h L, List.map_cons, List.sum_cons]
theorem dP (f : Fr) : ∀ (l : List Nat) (b : Bl), (l.foldl (cJ f) b).ar = b.ar + l.length ∧ (l.foldl (cJ f) b).su = b.su + (l.map f.px).sum ∧ (l.foldl (cJ f) b).sx = b.sx + (l.map (fun i => f.px i * (i % f.wd))).sum
 | [], b => ⟨rfl, rfl, rfl⟩
 | i :: l, b => by
  obtain ⟨h1, h2, h3⟩ := dP f l (cJ f b i)
  rw [List.foldl_cons, h1, h2, h3, List.length_cons, List.map_cons, List.sum_cons, List.map_cons, List.sum_cons]
  unfold cJ
  dsimp only
  exact ⟨by omega, by omega, by omega⟩
theorem fU : ∀ l : List Nat, (l.map (fun _ => 1)).sum = l.length
 | [] => rfl
 | x :: l => by rw [List.map_cons, List.sum_cons, fU l, List.length_cons]; omega
theorem bF (f : Fr) : (((ak f f.n).2.map Bl.ar).sum = ax (az f (fun _ => 1)) f.n) ∧ (((ak f f.n).2.map Bl.su).sum = ax (az f f.px) f.n) ∧ (((ak f f.n).2.map Bl.sx).sum = ax (az f (fun i => f.px i * (i % f.wd))) f.n) := by
 rw [br, List.map_map, List.map_map, List.map_map, ← fl, ← fl, ← fl, cW, cW, cW]
 refine ⟨congrArg List.sum (List.map_congr_left (fun l _ => ?_)), congrArg List.sum (List.map_congr_left (fun l _ => ?_)), congrArg List.sum (List.map_congr_left (fun l _ => ?_))⟩
 ·show (aX f l).ar = _
  rw [aX, (dP f l _).1, fU, Nat.zero_add]
 ·show (aX f l).su = _
  rw [aX, (dP f l _).2.1, Nat.zero_add]
 ·show (aX f l).sx = _
  rw [aX, (dP f l _).2.2, Nat.zero_add]
theorem ji {w n : Nat} {i j : Nat} (hw : 0 < w) (h : mir w i = mir w j) : i = j := by rw [← ct (w := w) (i := i) hw, h, ct hw]
theorem gS {f : Fr} (h : Nat → Nat) (hw : 0 < f.wd) : ax (fun i => h (mir f.wd i)) f.n = ax h f.n := by
 have hp : ((List.range f.n).map (mir f.wd)).Perm (List.range f.n) := by
  rw [List.perm_ext_iff_of_nodup ?_ List.nodup_range]
  ·intro j
   rw [List.mem_map, List.mem_range]
   constructor
   ·rintro ⟨i, hi, rfl⟩
    exact fA (List.mem_range.1 hi)
   ·intro hj
    exact ⟨mir f.wd j, List.mem_range.2 (fA hj), ct hw⟩
  ·show List.Pairwise _ _
   rw [List.pairwise_map]
   exact List.Pairwise.imp (fun hne e => hne (ji (n := f.n) hw e)) (List.nodup_range (n := f.n))
 rw [← bL, ← bL, ← (hp.map h).sum_nat, List.map_map]
 rfl
theorem bK {h g : Nat → Nat} : ∀ n, (∀ i, i < n → h i = g i) → ax h n = ax g n
 | 0, _ => rfl
 | n + 1, e => by unfold ax; rw [bK n (fun i hi => e i (by omega)), e n (by omega)]
theorem fd (h g : Nat → Nat) : ∀ n, ax (fun i => h i + g i) n = ax h n + ax g n
 | 0 => rfl
 | n + 1 => by unfold ax; rw [fd h g n]; omega
theorem ff (k : Nat) (h : Nat → Nat) : ∀ n, ax (fun i => k * h i) n = k * ax h n
 | 0 => rfl
 | n + 1 => by unfold ax; rw [ff k h n, Nat.mul_add]
theorem bZ.litB {f g : Fr} (h : bZ f g) {i : Nat} (hi : i < f.n) : Go.Proofs.Ytackifnnhjbgbaa.litB g i = Go.Proofs.Ytackifnnhjbgbaa.litB f (mir f.wd i) := by unfold Go.Proofs.Ytackifnnhjbgbaa.litB; rw [h.px i hi, h.lv]
theorem gy {f g : Fr} (h : bZ f g) (hw : 0 < f.wd) : (((ak g g.n).2.map Bl.ar).sum = ((ak f f.n).2.map Bl.ar).sum) ∧ (((ak f f.n).2.map Bl.sx).sum + ((ak g g.n).2.map Bl.sx).sum = (f.wd - 1) * ((ak f f.n).2.map Bl.su).sum) := by
 rw [(bF g).1, (bF g).2.2, (bF f).1, (bF f).2.1, (bF f).2.2, h.n]
 constructor
 ·rw [← gS (az f (fun _ => 1)) hw]
  exact bK _ (fun i hi => by unfold az; rw [h.litB hi])
 ·have e : ax (az g (fun i => g.px i * (i % g.wd))) f.n = ax (az f (fun j => f.px j * (f.wd - 1 - j % f.wd))) f.n := by
   rw [← gS (az f (fun j => f.px j * (f.wd - 1 - j % f.wd))) hw]
   refine bK _ (fun i hi => ?_)
   unfold az
   rw [h.litB hi]
   dsimp only
   rw [h.px i hi, h.wd]
   obtain ⟨x, y, hx, rfl⟩ := cp (i := i) hw
   rw [aW hx, (eW hx).1, (eW (show f.wd - 1 - x < f.wd by omega)).1, show f.wd - 1 - (f.wd - 1 - x) = x by omega]
  rw [e, ← fd, ← ff]
  refine bK _ (fun i hi => ?_)
  unfold az
  split
  ·rw [← Nat.mul_add, Nat.mul_comm]
   congr 1
   have := Nat.mod_lt i hw
   omega
  ·rfl
theorem iK {f : Fr} (h : ∀ i, i < f.n → ¬ f.lv < (f.px i : Int)) : (ak f f.n).2 = [] := by
 have S := bJ f f.n (Nat.le_refl _)
 have hs : bm f f.n = [] := by
  cases e : bm f f.n with
  | nil => rfl
  | cons x l =>
   have := (S.seed x (by rw [e]; simp)).1
   exact absurd this.2 (h x this.1)
 have hl := bR f f.n
 rw [hs] at hl
 rw [br, List.eq_nil_of_length_eq_zero (l := aY f f.n) (by simpa using hl.symm)]
 rfl
end
section
open Go.RowKit
def Row (w : World) (a : Option Addr) (len : Nat) (B : Nat) : Prop :=
 len = 0 ∨ ∃ bx ox, a = some ⟨bx, ox, none⟩ ∧ bx < B ∧ ∀ i, i < len → ∃ z : Int, w.cell? ⟨bx, ox + i, none⟩ = some (.int .u8 z) ∧ 0 ≤ z ∧ z ≤ 255
theorem Row.kept {w w' : World} {a : Option Addr} {len B : Nat} (h : Row w a len B) (hk : ∀ k, k < B → w'.heap[k]? = w.heap[k]?) : Row w' a len B := by
 rcases h with h | ⟨bx, ox, ha, hb, hc⟩
 ·exact .inl h
 ·refine .inr ⟨bx, ox, ha, hb, fun i hi => ?_⟩
  obtain ⟨z, hz, h0, h1⟩ := hc i hi
  exact ⟨z, by rw [World.cell?_of_block (w := w) (hk bx hb)]; exact hz, h0, h1⟩
def aL (b : Nat) (w : World) : Prop := ∃ (a : Option Addr) (len cap : Nat) (at_ mix size : Int),
 w.cell? ⟨b, 0, none⟩ = some (.slice a len cap) ∧ w.cell? ⟨b, 1, none⟩ = some (.int .i64 at_) ∧ w.cell? ⟨b, 2, none⟩ = some (.int .u64 mix) ∧ w.cell? ⟨b, 3, none⟩ = some (.int .i64 size) ∧
 w.frozen? ⟨b, 0, none⟩ = false ∧ w.frozen? ⟨b, 1, none⟩ = false ∧ w.frozen? ⟨b, 2, none⟩ = false ∧ w.frozen? ⟨b, 3, none⟩ = false ∧
 0 ≤ at_ ∧ at_ ≤ len ∧ len ≤ 1048576 ∧ 0 ≤ mix ∧ mix ≤ 18446744073709551615 ∧ 0 ≤ size ∧ size ≤ 12 ∧ Row w a len b
theorem dF (a b : Int) : 0 ≤ bits .xor .u64 a b ∧ bits .xor .u64 a b ≤ 18446744073709551615 := by
 have h := wf_bits .xor .u64 a b
 simpa [Lit.wf, IntKind.min, IntKind.max, IntKind.signed, IntKind.bits] using h
theorem jO (b : Nat) (most : Int) (w : World) (h : most ≤ 1) :
  Calls Try.prog 22 #[.pointer (some ⟨b, 0, none⟩), .int .i64 most] w fun e w' => e = .returned (.int .i64 0) ∧ w' = w := by
 go_enter Try.func22, Try.ntmps22
 go_wp2
 go_ret
 exact ⟨rfl, rfl⟩
theorem fE (w : World) (b o : Nat) (v v' : Value) : (w.setCell ⟨b, o, none⟩ v).setCell ⟨b, o, none⟩ v' = w.setCell ⟨b, o, none⟩ v' := by
 unfold World.setCell
 congr 1
 apply Array.ext
 ·simp
 ·intro i h1 h2
  simp only [Array.getElem_modify]
  by_cases e : b = i
  ·simp only [e, if_true]
   split <;> rename_i h <;> revert h <;> split <;> intro h <;> simp_all
   obtain ⟨rfl, rfl, rfl⟩ := h
   simp
  ·simp [e]
def drawn (v m most : Int) : Int := (v + m / 1048576) % most
theorem jJ (b : Nat) (most : Int) (w : World) (a : Option Addr) (len cap : Nat) (at_ mix : Int) (h : 1 < most) (hm : most ≤ 9223372036854775807)
  (c0 : w.cell? ⟨b, 0, none⟩ = some (.slice a len cap)) (c1 : w.cell? ⟨b, 1, none⟩ = some (.int .i64 at_)) (c2 : w.cell? ⟨b, 2, none⟩ = some (.int .u64 mix))
  (f2 : w.frozen? ⟨b, 2, none⟩ = false) (hlen : len ≤ 1048576) (hat : (len : Int) ≤ at_) (hm0 : 0 ≤ mix) (hm1 : mix ≤ 18446744073709551615) :
  Calls Try.prog 22 #[.pointer (some ⟨b, 0, none⟩), .int .i64 most] w fun e w' => ∃ k m : Int, e = .returned (.int .i64 k) ∧ 0 ≤ k ∧ k < most ∧ 0 ≤ m ∧ m ≤ 18446744073709551615 ∧ w'.heap = (w.setCell ⟨b, 2, none⟩ (.int .u64 m)).heap ∧ w'.os = w.os ∧ w'.tape = w.tape ∧ w'.output = w.output := by
 have hss := fun v v' => fE w b 2 v v'
 have hx := dF
 obtain ⟨m1, hm1e⟩ : ∃ m, bits .xor .u64 mix (IntKind.u64.wrap (mix * 8192)) = m := ⟨_, rfl⟩
 obtain ⟨m2, hm2e⟩ : ∃ m, bits .xor .u64 m1 (m1 / 128) = m := ⟨_, rfl⟩
 obtain ⟨m3, hm3e⟩ : ∃ m, bits .xor .u64 m2 (IntKind.u64.wrap (m2 * 131072)) = m := ⟨_, rfl⟩
 have r1 : 0 ≤ m1 ∧ m1 ≤ 18446744073709551615 := by rw [← hm1e]; exact hx _ _
 have r2 : 0 ≤ m2 ∧ m2 ≤ 18446744073709551615 := by rw [← hm2e]; exact hx _ _
 have r3 : 0 ≤ m3 ∧ m3 ≤ 18446744073709551615 := by rw [← hm3e]; exact hx _ _
 clear hx
 go_enter Try.func22, Try.ntmps22
 go_wp2
 go_region
 go_wp2
 go_region
 go_wp2
 go_region
 go_wp2
 go_region
 go_wp2
 go_ret
 have hk0 : 0 ≤ m3 / 1048576 % most := Int.emod_nonneg _ (by omega)
 have hk1 : m3 / 1048576 % most < most := Int.emod_lt_of_pos _ (by omega)
 have hkw : wrap64 (m3 / 1048576 % most) = m3 / 1048576 % most := by unfold wrap64; omega
 exact ⟨_, m3, rfl, by rw [hkw]; exact hk0, by rw [hkw]; exact hk1, r3.1, r3.2, rfl, rfl, rfl, rfl⟩
theorem n_in (b : Nat) (most : Int) (w : World) (bx ox : Nat) (len cap at_ : Nat) (mix z : Int) (h : 1 < most) (hm : most ≤ 9223372036854775807)
  (c0 : w.cell? ⟨b, 0, none⟩ = some (.slice (some ⟨bx, ox, none⟩) len cap)) (c1 : w.cell? ⟨b, 1, none⟩ = some (.int .i64 (at_ : Int))) (c2 : w.cell? ⟨b, 2, none⟩ = some (.int .u64 mix))
  (f1 : w.frozen? ⟨b, 1, none⟩ = false) (f2 : w.frozen? ⟨b, 2, none⟩ = false) (hlen : len ≤ 1048576) (hat : (at_ : Int) < (len : Int)) (hm0 : 0 ≤ mix) (hm1 : mix ≤ 18446744073709551615)
  (cz : w.cell? ⟨bx, ox + at_, none⟩ = some (.int .u8 z)) (z0 : 0 ≤ z) (z1 : z ≤ 255) :
  Calls Try.prog 22 #[.pointer (some ⟨b, 0, none⟩), .int .i64 most] w fun e w' => ∃ k m : Int, e = .returned (.int .i64 k) ∧ 0 ≤ k ∧ k < most ∧ 0 ≤ m ∧ m ≤ 18446744073709551615 ∧ w'.heap = ((w.setCell ⟨b, 1, none⟩ (.int .i64 ((at_ : Int) + 1))).setCell ⟨b, 2, none⟩ (.int .u64 m)).heap ∧ w'.os = w.os ∧ w'.tape = w.tape ∧ w'.output = w.output := by
 have hss := fun v v' => fE (w.setCell ⟨b, 1, none⟩ (.int .i64 ((at_ : Int) + 1))) b 2 v v'
 have hx := dF
 obtain ⟨m1, hm1e⟩ : ∃ m, bits .xor .u64 mix (IntKind.u64.wrap (mix * 8192)) = m := ⟨_, rfl⟩
 obtain ⟨m2, hm2e⟩ : ∃ m, bits .xor .u64 m1 (m1 / 128) = m := ⟨_, rfl⟩
 obtain ⟨m3, hm3e⟩ : ∃ m, bits .xor .u64 m2 (IntKind.u64.wrap (m2 * 131072)) = m := ⟨_, rfl⟩
 have r1 : 0 ≤ m1 ∧ m1 ≤ 18446744073709551615 := by rw [← hm1e]; exact hx _ _
 have r2 : 0 ≤ m2 ∧ m2 ≤ 18446744073709551615 := by rw [← hm2e]; exact hx _ _
 have r3 : 0 ≤ m3 ∧ m3 ≤ 18446744073709551615 := by rw [← hm3e]; exact hx _ _
 clear hx
 go_enter Try.func22, Try.ntmps22
 go_wp2
 go_region
 go_wp2
 go_region
 go_wp2
 go_region
 go_wp2
 go_region
 go_wp2
 go_region
 go_wp2
 go_ret
 have hk0 : 0 ≤ (z + m3 / 1048576) % most := Int.emod_nonneg _ (by omega)
 have hk1 : (z + m3 / 1048576) % most < most := Int.emod_lt_of_pos _ (by omega)
 have hkw : wrap64 ((z + m3 / 1048576) % most) = (z + m3 / 1048576) % most := by unfold wrap64; omega
 exact ⟨_, m3, rfl, by rw [hkw]; exact hk0, by rw [hkw]; exact hk1, r3.1, r3.2, rfl, rfl, rfl, rfl⟩
theorem bg {w w' : World} (h : w'.heap = w.heap) (a : Addr) : w'.cell? a = w.cell? a := World.cell?_of_block (by rw [h])
theorem aQ {w w' : World} (h : w'.heap = w.heap) (a : Addr) : w'.frozen? a = w.frozen? a := World.frozen?_of_block (by rw [h])
theorem bC (b : Nat) (most : Int) (w : World) (hS : aL b w) (hm : most ≤ 9223372036854775807) :
  Calls Try.prog 22 #[.pointer (some ⟨b, 0, none⟩), .int .i64 most] w fun e w' => ∃ k : Int, e = .returned (.int .i64 k) ∧ 0 ≤ k ∧ (1 < most → k < most) ∧ (most ≤ 1 → k = 0) ∧ aL b w' ∧ w.grownBy w' (some b) := by
 by_cases h : most ≤ 1
 ·refine (jO b most w h).mono ?_
  rintro e w' ⟨rfl, rfl⟩
  exact ⟨0, rfl, Int.le_refl _, by omega, fun _ => rfl, hS, ⟨rfl, rfl, rfl, Nat.le_refl _, fun _ _ _ => rfl⟩⟩
 obtain ⟨a, len, cap, at_, mix, size, c0, c1, c2, c3, f0, f1, f2, f3, a0, a1, hl, m0, m1, s0, s1, hR⟩ := hS
 by_cases hat : at_ < len
 ·obtain ⟨n, rfl⟩ : ∃ n : Nat, at_ = (n : Int) := ⟨at_.toNat, by omega⟩
  rcases hR with h0 | ⟨bx, ox, rfl, hb, hz⟩
  ·omega
  obtain ⟨z, cz, z0, z1⟩ := hz n (by omega)
  refine (n_in b most w bx ox len cap n mix z (by omega) hm c0 c1 c2 f1 f2 hl hat m0 m1 cz z0 z1).mono ?_
  rintro e w' ⟨k, m, rfl, k0, k1, hm0, hm1, hh, ho, ht, hu⟩
  have hne : ∀ k, k ≠ b → w'.heap[k]? = w.heap[k]? := fun k hk => by rw [hh, Below.heap_setCell _ _ _ _ hk, Below.heap_setCell _ _ _ _ hk]
  refine ⟨k, rfl, k0, fun _ => k1, fun h' => absurd h' h, ⟨some ⟨bx, ox, none⟩, len, cap, (n : Int) + 1, m, size, ?_, ?_, ?_, ?_, ?_, ?_, ?_, ?_, by omega, by omega, hl, hm0, hm1, s0, s1, Row.kept (.inr ⟨bx, ox, rfl, hb, hz⟩) (fun k hk => hne k (by omega))⟩,
   ⟨ho, ht, hu, by rw [hh]; simp [World.setCell], fun k _ hk => hne k (fun e => hk (by rw [e]))⟩⟩
  ·rw [bg hh]; go_simp
  ·rw [bg hh]; go_simp
  ·rw [bg hh]; go_simp
  ·rw [bg hh]; go_simp
  ·rw [aQ hh]; simp only [World.frozen?_setCell]; exact f0
  ·rw [aQ hh]; simp only [World.frozen?_setCell]; exact f1
  ·rw [aQ hh]; simp only [World.frozen?_setCell]; exact f2
  ·rw [aQ hh]; simp only [World.frozen?_setCell]; exact f3
 ·refine (jJ b most w a len cap at_ mix (by omega) hm c0 c1 c2 f2 hl (by omega) m0 m1).mono ?_
  rintro e w' ⟨k, m, rfl, k0, k1, hm0, hm1, hh, ho, ht, hu⟩
  have hne : ∀ k, k ≠ b → w'.heap[k]? = w.heap[k]? := fun k hk => by rw [hh, Below.heap_setCell _ _ _ _ hk]
  refine ⟨k, rfl, k0, fun _ => k1, fun h' => absurd h' h, ⟨a, len, cap, at_, m, size, ?_, ?_, ?_, ?_, ?_, ?_, ?_, ?_, by omega, by omega, hl, hm0, hm1, s0, s1, Row.kept hR (fun k hk => hne k (by omega))⟩,
   ⟨ho, ht, hu, by rw [hh]; simp [World.setCell], fun k _ hk => hne k (fun e => hk (by rw [e]))⟩⟩
  ·rw [bg hh]; go_simp
  ·rw [bg hh]; go_simp
  ·rw [bg hh]; go_simp
  ·rw [bg hh]; go_simp
  ·rw [aQ hh]; simp only [World.frozen?_setCell]; exact f0
  ·rw [aQ hh]; simp only [World.frozen?_setCell]; exact f1
  ·rw [aQ hh]; simp only [World.frozen?_setCell]; exact f2
  ·rw [aQ hh]; simp only [World.frozen?_setCell]; exact f3
theorem aL.kept {b : Nat} {w w' : World} {row : Option Nat} (h : aL b w) (hg : w.grownBy w' row) (hr : ∀ k, row = some k → b < k) : aL b w' := by
 obtain ⟨a, len, cap, at_, mix, size, c0, c1, c2, c3, f0, f1, f2, f3, a0, a1, hl, m0, m1, s0, s1, hR⟩ := h
 have hlt : b < w.heap.size := World.block_lt_of_cell? w ⟨b, 0, none⟩ c0
 have hk : ∀ k, k ≤ b → w'.heap[k]? = w.heap[k]? := fun k hk => hg.block k (by omega) (fun e => by have := hr k e.symm; omega)
 have hc : ∀ o, w'.cell? ⟨b, o, none⟩ = w.cell? ⟨b, o, none⟩ := fun o => World.cell?_of_block (hk b (Nat.le_refl _))
 have hf : ∀ o, w'.frozen? ⟨b, o, none⟩ = w.frozen? ⟨b, o, none⟩ := fun o => World.frozen?_of_block (hk b (Nat.le_refl _))
 exact ⟨a, len, cap, at_, mix, size, by rw [hc]; exact c0, by rw [hc]; exact c1, by rw [hc]; exact c2, by rw [hc]; exact c3, by rw [hf]; exact f0, by rw [hf]; exact f1, by rw [hf]; exact f2, by rw [hf]; exact f3, a0, a1, hl, m0, m1, s0, s1, hR.kept (fun k h => hk k (by omega))⟩
theorem aR {a b c : World} {row : Option Nat} (h : a.grownBy b row) (k : b.grownBy c row) : a.grownBy c row :=
 ⟨k.os.trans h.os, k.tape.trans h.tape, k.output.trans h.output, Nat.le_trans h.size k.size, fun i hi hn => (k.block i (Nat.lt_of_lt_of_le hi h.size) hn).trans (h.block i hi hn)⟩
theorem aL.lt {b : Nat} {w : World} (h : aL b w) : b < w.heap.size := by
 obtain ⟨a, len, cap, at_, mix, size, c0, _⟩ := h
 exact World.block_lt_of_cell? w ⟨b, 0, none⟩ c0
theorem cu (b : Nat) (of : Int) (w : World) (hS : aL b w) (hm : of ≤ 9223372036854775807) :
  Calls Try.prog 28 #[.pointer (some ⟨b, 0, none⟩), .int .i64 of] w fun e w' => ∃ y : Bool, e = .returned (.bool y) ∧ aL b w' ∧ w.grownBy w' (some b) := by
 have HS := yz hS
 clear hS
 go_enter Try.func28, Try.ntmps28
 go_wp2_with fail
 refine (bC b of w (yx HS) hm).mono ?_
 rintro e w1 ⟨k, rfl, k0, k1, k2, hS1, hg⟩
 have HS1 := yz hS1
 clear hS1
 go_wp2
 go_ret
 exact ⟨_, rfl, yx HS1, hg⟩
end
section
open Go.RowKit
theorem iB : ∃ i : TypeInfo, Try.prog.info? 5 = some i ∧ i.zero = some (.int .u8 0) ∧ i.size = 1 ∧ i.bytes = 1 := by
 refine ⟨_, rfl, ?_, ?_, ?_⟩ <;> kernel_rfl
end
section
open Go.RowKit
theorem eH (a : Int) : 0 ≤ IntKind.u64.wrap a ∧ IntKind.u64.wrap a ≤ 18446744073709551615 := by
 have h := wf_wrap .u64 a
 simpa [Lit.wf, IntKind.min, IntKind.max, IntKind.signed, IntKind.bits] using h
theorem cO (a : Option Addr) (len cap : Nat) (w : World) (hl : len ≤ 1048576) (hR : Row w a len w.heap.size) :
  Calls Try.prog 20 #[.slice a len cap] w fun e w' => e = .returned (.pointer (some ⟨w.heap.size, 0, none⟩)) ∧ aL w.heap.size w' ∧ Below w.heap.size w w' := by
 have HR := yz hR
 clear hR
 go_enter Try.func20, Try.ntmps20
 go_wp2
 go_loopw [4] (fun i wr => ∃ (k : Nat) (mix : Int), k ≤ len ∧ k ≤ 64 ∧ i = .int .i64 k ∧ 0 ≤ mix ∧ mix ≤ 18446744073709551615 ∧
   wr.cell? ⟨w.heap.size, 0, none⟩ = some (.slice a len cap) ∧ wr.cell? ⟨w.heap.size, 1, none⟩ = some (.int .i64 0) ∧ wr.cell? ⟨w.heap.size, 2, none⟩ = some (.int .u64 mix) ∧ wr.cell? ⟨w.heap.size, 3, none⟩ = some (.int .i64 0) ∧
   wr.frozen? ⟨w.heap.size, 0, none⟩ = false ∧ wr.frozen? ⟨w.heap.size, 1, none⟩ = false ∧ wr.frozen? ⟨w.heap.size, 2, none⟩ = false ∧ wr.frozen? ⟨w.heap.size, 3, none⟩ = false ∧ Below w.heap.size w wr) (fun i _ => 64 - (intOf i).toNat)
 case atStart => exact ⟨0, 88172645463325252, by omega, by omega, rfl, by omega, by omega, by simp, by simp, by simp, by simp, by simp, by simp, by simp, by simp, (Below.refl _ _).alloc (Nat.le_refl _) _⟩
 case round =>
  obtain ⟨k, mix, hk, hk64, rfl, m0, m1, c0, c1, c2, c3, f0, f1, f2, f3, hB⟩ := hrel
  by_cases hlt : k < len ∧ k < 64
  ·obtain ⟨h1, h2⟩ := hlt
   rcases yx HR with h0 | ⟨bx, ox, rfl, hbx, hz⟩
   ·omega
   obtain ⟨z, cz, z0, z1⟩ := hz k h1
   have cz' : wr.cell? ⟨bx, ox + k, none⟩ = some (.int .u8 z) := by rw [hB.cell (p := ⟨bx, ox + k, none⟩) hbx]; exact cz
   obtain ⟨m, hme⟩ : ∃ m, IntKind.u64.wrap (bits .xor .u64 mix z * 1099511628211) = m := ⟨_, rfl⟩
   have hmr : 0 ≤ m ∧ m ≤ 18446744073709551615 := by rw [← hme]; exact eH _
   have hk1 : (k : Int) < (len : Int) := by omega
   have hk2 : (k : Int) < 64 := by omega
   clear hz cz
   go_wp2
   go_region
   go_wp2
   go_roundw
   case rel => exact ⟨k + 1, m, by omega, by omega, by go_num, hmr.1, hmr.2, by go_simp, by go_simp, by go_simp, by go_simp, by go_simp, by go_simp, by go_simp, by go_simp, (hB.setCell (Nat.le_refl _) _).drew⟩
   case measure => simp [intOf]; omega
  ·have hRr := (yx HR).kept hB.block
   have HRr := yz hRr
   have hss := fun v v' => fE wr w.heap.size 3 v v'
   have hex : ((len : Int) ≤ (k : Int) ∧ (len : Int) / 20 ≤ 12) ∨ (((k : Int) < (len : Int) ∧ (64 : Int) ≤ (k : Int)) ∧ (len : Int) / 20 ≤ 12) ∨ (((k : Int) < (len : Int) ∧ (64 : Int) ≤ (k : Int)) ∧ 12 < (len : Int) / 20) := by omega
   clear hRr hlt
   rcases hex with ⟨hex, hq⟩ | ⟨hex, hq⟩ | ⟨hex, hq⟩
   ·go_wp2
    go_ret
    exact ⟨rfl, ⟨a, len, cap, 0, mix, (len : Int) / 20, by go_simp, by go_simp, by go_simp, by go_simp, by go_simp, by go_simp, by go_simp, by go_simp, by omega, by omega, hl, m0, m1, by omega, by omega, (yx HRr).kept (fun j hj => Below.heap_setCell _ _ _ _ (by simp; omega))⟩, hB.setCell (Nat.le_refl _) _⟩
   ·go_wp2
    go_ret
    exact ⟨rfl, ⟨a, len, cap, 0, mix, (len : Int) / 20, by go_simp, by go_simp, by go_simp, by go_simp, by go_simp, by go_simp, by go_simp, by go_simp, by omega, by omega, hl, m0, m1, by omega, by omega, (yx HRr).kept (fun j hj => Below.heap_setCell _ _ _ _ (by simp; omega))⟩, hB.setCell (Nat.le_refl _) _⟩
   ·go_wp2
    go_ret
    exact ⟨rfl, ⟨a, len, cap, 0, mix, 12, by go_simp, by go_simp, by go_simp, by go_simp, by go_simp, by go_simp, by go_simp, by go_simp, by omega, by omega, hl, m0, m1, by omega, by omega, (yx HRr).kept (fun j hj => Below.heap_setCell _ _ _ _ (by simp; omega))⟩, hB.setCell (Nat.le_refl _) _⟩
theorem aG {n : Int} (h0 : -9223372036854775808 ≤ n) (h1 : n ≤ 9223372036854775807) : wrap64 n = n := by
 exact Go.IntWalk.wrap64_in n ⟨h0, h1⟩
theorem an (w : World) (a : Obj) : Below w.heap.size w (w.alloc a) := (Below.refl _ _).alloc (Nat.le_refl _) _
theorem be (w : World) (a b : Obj) : Below w.heap.size w ((w.alloc a).alloc b) := (an w a).alloc (by simp) _
theorem dt (w : World) (a b c : Obj) : Below w.heap.size w (((w.alloc a).alloc b).alloc c) := (be w a b).alloc (by simp; omega) _
theorem aj {w w1 w2 : World} (h : Below w.heap.size w w1) (h2 : Below w1.heap.size w1 w2) : Below w.heap.size w w2 := h.trans (h2.mono h.size)
theorem dy (n lo hi : Int) (w : World) :
  Calls Try.prog 25 #[.int .i64 n, .int .i64 lo, .int .i64 hi] w fun e w' => e = .returned (.bool (decide (lo ≤ n) && decide (n ≤ hi))) ∧ w' = w := by
 by_cases h : lo ≤ n
 ·go_enter Try.func25, Try.ntmps25
  go_wp2
  go_ret
  exact ⟨by simp [h], rfl⟩
 ·go_enter Try.func25, Try.ntmps25
  go_wp2
  go_ret
  exact ⟨by simp; omega, rfl⟩
end
section
open Go.RowKit Go.Sort
def av (wd ht : Int) (s : ByteArray) : Bool := decide (1 ≤ wd) && decide (wd ≤ 16) && decide (1 ≤ ht) && decide (ht ≤ 12) && decide ((s.size : Int) = wd * ht)
theorem au {wd ht : Int} {s : ByteArray} : av wd ht s = true ↔ (1 ≤ wd ∧ wd ≤ 16 ∧ 1 ≤ ht ∧ ht ≤ 12 ∧ (s.size : Int) = wd * ht) := by
 unfold av
 simp only [Bool.and_eq_true, decide_eq_true_eq, and_assoc]
theorem bP {wd ht : Int} {s : ByteArray} (h : wd < 1 ∨ 16 < wd ∨ ht < 1 ∨ 12 < ht) : av wd ht s = false := by
 cases e : av wd ht s
 ·rfl
 ·have := au.1 e; omega
theorem aJ (wd ht : Int) (s : ByteArray) (w : World) :
  Calls Try.prog 17 #[.agg #[.int .i64 wd, .int .i64 ht, .string s]] w fun e w' => e = .returned (.bool (av wd ht s)) ∧ Below w.heap.size w w' := by
 go_enter Try.func17, Try.ntmps17
 go_wp2_with fail
 refine (dy wd 1 16 _).mono ?_
 rintro e w1 ⟨rfl, rfl⟩
 by_cases h1 : 1 ≤ wd ∧ wd ≤ 16
 ·have e1 : (decide (1 ≤ wd) && decide (wd ≤ 16)) = true := by simp [h1]
  rw [e1]
  go_wp2_with fail
  refine (dy ht 1 12 _).mono ?_
  rintro e w1 ⟨rfl, rfl⟩
  by_cases h2 : 1 ≤ ht ∧ ht ≤ 12
  ·have e2 : (decide (1 ≤ ht) && decide (ht ≤ 12)) = true := by simp [h2]
   rw [e2]
   obtain ⟨a1, a2⟩ := h1
   obtain ⟨a3, a4⟩ := h2
   have hm : wrap64 (wd * ht) = wd * ht := by
    have h0 := Int.mul_nonneg (show 0 ≤ wd by omega) (show 0 ≤ ht by omega)
    have h1 := Int.mul_le_mul a2 a4 (by omega) (by omega)
    exact aG (by omega) (by omega)
   have HF : Hid (av wd ht s = decide ((s.size : Int) = wd * ht)) := yz (by unfold av; simp [a1, a2, a3, a4])
   clear e1 e2
   go_wp2_with fail
   go_ret
   exact ⟨by rw [yx HF]; rfl, an _ _⟩
  ·have e2 : (decide (1 ≤ ht) && decide (ht ≤ 12)) = false := by simp; omega
   rw [e2]
   go_wp2_with fail
   go_ret
   exact ⟨by rw [bP (by omega)]; rfl, an _ _⟩
 ·have e1 : (decide (1 ≤ wd) && decide (wd ≤ 16)) = false := by simp; omega
  rw [e1]
  go_wp2_with fail
  go_ret
  exact ⟨by rw [bP (by omega)]; rfl, an _ _⟩
theorem bc (wd ht : Int) (s : ByteArray) (w : World) :
  Calls Try.prog 16 #[.agg #[.int .i64 wd, .int .i64 ht, .string s]] w fun e w' => e = .returned (.bool (av wd ht s)) ∧ Below w.heap.size w w' := by
 by_cases h1 : wd < 1
 ·go_enter Try.func16, Try.ntmps16
  go_wp2_with fail
  go_ret
  exact ⟨by rw [bP (by omega)]; rfl, an _ _⟩
 by_cases h2 : 16 < wd
 ·go_enter Try.func16, Try.ntmps16
  go_wp2_with fail
  go_ret
  exact ⟨by rw [bP (by omega)]; rfl, an _ _⟩
 by_cases h3 : ht < 1
 ·go_enter Try.func16, Try.ntmps16
  go_wp2_with fail
  go_ret
  exact ⟨by rw [bP (by omega)]; rfl, an _ _⟩
 by_cases h4 : 12 < ht
 ·go_enter Try.func16, Try.ntmps16
  go_wp2_with fail
  go_ret
  exact ⟨by rw [bP (by omega)]; rfl, an _ _⟩
 have hm : wrap64 (wd * ht) = wd * ht := by
  have h0 := Int.mul_nonneg (show 0 ≤ wd by omega) (show 0 ≤ ht by omega)
  have h1 := Int.mul_le_mul (show wd ≤ 16 by omega) (show ht ≤ 12 by omega) (by omega) (by omega)
  exact aG (by omega) (by omega)
 have HF : Hid (av wd ht s = decide ((s.size : Int) = wd * ht)) := yz (by
  unfold av
  rw [show decide (1 ≤ wd) = true by simp; omega, show decide (wd ≤ 16) = true by simp; omega, show decide (1 ≤ ht) = true by simp; omega, show decide (ht ≤ 12) = true by simp; omega]
  rfl)
 go_enter Try.func16, Try.ntmps16
 go_wp2_with fail
 go_ret
 exact ⟨by rw [yx HF]; rfl, an _ _⟩
end
section
open Go.RowKit
end
end Go.Proofs.Ytackifnnhjbgbaa
