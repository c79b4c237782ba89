/- Several texts in one: ReadMath. -/
import Derived.Test.YtlleafjdgblhcaaGreatDoorQDeskRunOwn4
import Derived.Test.YtlleafjdgblhcaaGreatDoorQDeskRunOwn1
namespace Go.Proofs.YtlleafjdgblhcaaGreatDoor
set_option linter.unusedVariables false
set_option linter.unusedSimpArgs false
set_option maxRecDepth 100000
set_option maxHeartbeats 8000000
section
structure LSt where
 pl : Nat
 sg : Int
 a : Int
 b : Int
 c : Int
 d : Int
def LSt.part (t : LSt) : Int := if t.pl = 0 then t.a else if t.pl = 1 then t.b else if t.pl = 2 then t.c else t.d
def LSt.put (t : LSt) (v : Int) : LSt := if t.pl = 0 then { t with a := v } else if t.pl = 1 then { t with b := v } else if t.pl = 2 then { t with c := v } else { t with d := v }
def rG (t : LSt) (x : Nat) : Option LSt :=
 if x = 44 ∧ t.pl < 3 then some { t with pl := t.pl + 1, sg := 1 } else if x = 45 then some { t with sg := -1 } else if 48 ≤ x ∧ x ≤ 57 then some (t.put (10 * t.part + t.sg * ((x : Int) - 48))) else none
def eQ (t : LSt) (x : Nat) : Option LSt := (rG t x).bind fun u => if -5 ≤ u.part ∧ u.part ≤ 5 then some u else none
def st0 : LSt := ⟨0, 1, 0, 0, 0, 0⟩
def en (s : ByteArray) : Nat → Option LSt
 | 0 => some st0
 | k + 1 => (en s k).bind fun t => eQ t (gu s k)
def cx : LSt → List UInt8 → Option LSt
 | t, [] => some t
 | t, x :: r => (eQ t x.toNat).bind fun u => cx u r
def okS (t : LSt) : Prop := t.pl ≤ 3 ∧ (t.sg = 1 ∨ t.sg = -1) ∧ (-5 ≤ t.a ∧ t.a ≤ 5) ∧ (-5 ≤ t.b ∧ t.b ≤ 5) ∧ (-5 ≤ t.c ∧ t.c ≤ 5) ∧ (-5 ≤ t.d ∧ t.d ≤ 5)
theorem iU {t : LSt} (h : okS t) : -5 ≤ t.part ∧ t.part ≤ 5 := by
 obtain ⟨h0, h1, h2, h3, h4, h5⟩ := h
 unfold LSt.part
 split
 ·exact h2
 ·split
  ·exact h3
  ·split
   ·exact h4
   ·exact h5
theorem uR {s : ByteArray} {k n : Nat} (h : en s k = none) (hn : k ≤ n) : en s n = none := by
 induction n with
 | zero => rw [show k = 0 by omega] at h; exact h
 | succ n ih =>
  by_cases e : k = n + 1
  ·rw [← e]; exact h
  ·show (en s n).bind _ = none
   rw [ih (by omega)]; rfl
theorem rh (t : LSt) (l r : List UInt8) : cx t (l ++ r) = (cx t l).bind fun u => cx u r := by
 induction l generalizing t with
 | nil => rfl
 | cons x l ih =>
  show (eQ t x.toNat).bind (fun u => cx u (l ++ r)) = ((eQ t x.toNat).bind fun u => cx u l).bind fun u => cx u r
  cases eQ t x.toNat with
  | none => rfl
  | some u => exact ih u
theorem lm (s : ByteArray) (k : Nat) (h : k < s.size) : s.data.toList[k]? = some s[k] := by
 rw [Array.getElem?_toList]
 exact Array.getElem?_eq_getElem h
theorem vn (s : ByteArray) (k : Nat) (h : k ≤ s.size) : en s k = cx st0 (s.data.toList.take k) := by
 induction k with
 | zero => rfl
 | succ k ih =>
  have hk : k < s.size := by omega
  have hl : k < s.data.toList.length := by simpa using hk
  have e : s.data.toList.take (k + 1) = s.data.toList.take k ++ [s.data.toList[k]] := by rw [List.take_succ_eq_append_getElem hl]
  have e2 : s.data.toList[k] = s[k] := by
   have := lm s k hk
   rw [List.getElem?_eq_getElem hl] at this
   exact Option.some.inj this
  rw [e, rh, ← ih (by omega), e2]
  show (en s k).bind _ = (en s k).bind _
  congr 1
  funext t
  show eQ t (gu s k) = (eQ t s[k].toNat).bind fun u => some u
  rw [kq hk]
  cases eQ t s[k].toNat <;> rfl
theorem wL (s : ByteArray) : en s s.size = cx st0 s.data.toList := by
 rw [vn s s.size (Nat.le_refl _)]
 congr 1
 exact List.take_of_length_le (by simp)
def sgO (n : Int) : Int := if n < 0 then -1 else 1
theorem dig0 {n : Int} (h : -5 ≤ n ∧ n ≤ 5) (r : List UInt8) : cx ⟨0, 1, 0, 0, 0, 0⟩ (dig n ++ r) = cx ⟨0, sgO n, n, 0, 0, 0⟩ r := by
 have hh : n = -5 ∨ n = -4 ∨ n = -3 ∨ n = -2 ∨ n = -1 ∨ n = 0 ∨ n = 1 ∨ n = 2 ∨ n = 3 ∨ n = 4 ∨ n = 5 := by omega
 rcases hh with rfl | rfl | rfl | rfl | rfl | rfl | rfl | rfl | rfl | rfl | rfl <;> rfl
theorem dig1 {n : Int} (h : -5 ≤ n ∧ n ≤ 5) (a : Int) (r : List UInt8) : cx ⟨1, 1, a, 0, 0, 0⟩ (dig n ++ r) = cx ⟨1, sgO n, a, n, 0, 0⟩ r := by
 have hh : n = -5 ∨ n = -4 ∨ n = -3 ∨ n = -2 ∨ n = -1 ∨ n = 0 ∨ n = 1 ∨ n = 2 ∨ n = 3 ∨ n = 4 ∨ n = 5 := by omega
 rcases hh with rfl | rfl | rfl | rfl | rfl | rfl | rfl | rfl | rfl | rfl | rfl <;> rfl
theorem dig2 {n : Int} (h : -5 ≤ n ∧ n ≤ 5) (a b : Int) (r : List UInt8) : cx ⟨2, 1, a, b, 0, 0⟩ (dig n ++ r) = cx ⟨2, sgO n, a, b, n, 0⟩ r := by
 have hh : n = -5 ∨ n = -4 ∨ n = -3 ∨ n = -2 ∨ n = -1 ∨ n = 0 ∨ n = 1 ∨ n = 2 ∨ n = 3 ∨ n = 4 ∨ n = 5 := by omega
 rcases hh with rfl | rfl | rfl | rfl | rfl | rfl | rfl | rfl | rfl | rfl | rfl <;> rfl
theorem dig3 {n : Int} (h : -5 ≤ n ∧ n ≤ 5) (a b c : Int) (r : List UInt8) : cx ⟨3, 1, a, b, c, 0⟩ (dig n ++ r) = cx ⟨3, sgO n, a, b, c, n⟩ r := by
 have hh : n = -5 ∨ n = -4 ∨ n = -3 ∨ n = -2 ∨ n = -1 ∨ n = 0 ∨ n = 1 ∨ n = 2 ∨ n = 3 ∨ n = 4 ∨ n = 5 := by omega
 rcases hh with rfl | rfl | rfl | rfl | rfl | rfl | rfl | rfl | rfl | rfl | rfl <;> rfl
theorem com0 (a g : Int) (r : List UInt8) : cx ⟨0, g, a, 0, 0, 0⟩ (44 :: r) = cx ⟨1, 1, a, 0, 0, 0⟩ r := rfl
theorem com1 (a b g : Int) (r : List UInt8) : cx ⟨1, g, a, b, 0, 0⟩ (44 :: r) = cx ⟨2, 1, a, b, 0, 0⟩ r := rfl
theorem com2 (a b c g : Int) (r : List UInt8) : cx ⟨2, g, a, b, c, 0⟩ (44 :: r) = cx ⟨3, 1, a, b, c, 0⟩ r := rfl
theorem wX {a b c d : Int} (h : inT 5 a b c d = true) : cx st0 (fc a b c d) = some ⟨3, sgO d, a, b, c, d⟩ := by
 obtain ⟨h1, h2, h3, h4⟩ := bR.1 h
 unfold fc st0
 rw [dig0 h1, com0, dig1 h2, com1, dig2 h3, com2]
 have := dig3 h4 a b c []
 rw [List.append_nil] at this
 rw [this]; rfl
def aE (s : ByteArray) : LSt := (en s s.size).getD ⟨0, 0, 0, 0, 0, 0⟩
theorem uq {a b c d : Int} (h : aA a b c d = true) : (aE (dc a b c d)).a = a ∧ (aE (dc a b c d)).b = b ∧ (aE (dc a b c d)).c = c ∧ (aE (dc a b c d)).d = d := by
 unfold aE
 rw [wL, oR h]
 show ((cx st0 (fc a b c d).toArray.toList).getD _).a = a ∧ _
 have e : (fc a b c d).toArray.toList = fc a b c d := by simp
 rw [e, wX (aZ.1 h).1]
 exact ⟨rfl, rfl, rfl, rfl⟩
def fW (s : ByteArray) : Bool := aA (aE s).a (aE s).b (aE s).c (aE s).d && decide (dc (aE s).a (aE s).b (aE s).c (aE s).d = s)
def dL (s : ByteArray) (v : Int) : Int := if s.size ≤ 8000 ∧ fW s = true then v else 0
def dR (s : ByteArray) : Int := if s.size ≤ 8000 then (if fW s then 0 else 3) else 2
theorem xJ {a b c d : Int} {s : ByteArray} (h : aA a b c d = true) (ht : dc a b c d = s) : fW s = true ∧ (aE s).a = a ∧ (aE s).b = b ∧ (aE s).c = c ∧ (aE s).d = d := by
 subst ht
 obtain ⟨e1, e2, e3, e4⟩ := uq h
 refine ⟨?_, e1, e2, e3, e4⟩
 unfold fW
 rw [e1, e2, e3, e4, h]
 simp
def bM : List (List UInt8) × List UInt8 → List UInt8 → List (List UInt8) × List UInt8
 | p, [] => p
 | p, x :: r => if x = 44 then bM (p.1 ++ [p.2], []) r else bM (p.1, p.2 ++ [x]) r
theorem qY (p : List (List UInt8) × List UInt8) (l r : List UInt8) : bM p (l ++ r) = bM (bM p l) r := by
 induction l generalizing p with
 | nil => rfl
 | cons x l ih =>
  show (if x = 44 then bM _ (l ++ r) else bM _ (l ++ r)) = bM (if x = 44 then bM _ l else bM _ l) r
  split
  ·exact ih _
  ·exact ih _
theorem jx {n : Int} (h : -5 ≤ n ∧ n ≤ 5) (acc : List (List UInt8)) (r : List UInt8) : bM (acc, []) (dig n ++ r) = bM (acc, dig n) r := by
 have hh : n = -5 ∨ n = -4 ∨ n = -3 ∨ n = -2 ∨ n = -1 ∨ n = 0 ∨ n = 1 ∨ n = 2 ∨ n = 3 ∨ n = 4 ∨ n = 5 := by omega
 rcases hh with rfl | rfl | rfl | rfl | rfl | rfl | rfl | rfl | rfl | rfl | rfl <;> rfl
theorem lx (acc : List (List UInt8)) (cur r : List UInt8) : bM (acc, cur) (44 :: r) = bM (acc ++ [cur], []) r := rfl
theorem wH {a b c d : Int} (h : inT 5 a b c d = true) : bM ([], []) (fc a b c d) = ([dig a, dig b, dig c], dig d) := by
 obtain ⟨h1, h2, h3, h4⟩ := bR.1 h
 unfold fc
 rw [jx h1, lx, jx h2, lx, jx h3, lx]
 have := jx h4 ([] ++ [dig a] ++ [dig b] ++ [dig c]) []
 rw [List.append_nil] at this
 rw [this]; rfl
def cj (l : List UInt8) : Int :=
 match l with
 | [x] => if 48 ≤ x.toNat ∧ x.toNat ≤ 57 then (x.toNat : Int) - 48 else 9
 | [x, y] => if x.toNat = 45 ∧ 48 ≤ y.toNat ∧ y.toNat ≤ 57 then -((y.toNat : Int) - 48) else 9
 | _ => 9
theorem mJ {n : Int} (h : -5 ≤ n ∧ n ≤ 5) : cj (dig n) = n := by
 have hh : n = -5 ∨ n = -4 ∨ n = -3 ∨ n = -2 ∨ n = -1 ∨ n = 0 ∨ n = 1 ∨ n = 2 ∨ n = 3 ∨ n = 4 ∨ n = 5 := by omega
 rcases hh with rfl | rfl | rfl | rfl | rfl | rfl | rfl | rfl | rfl | rfl | rfl <;> rfl
theorem se {s : ByteArray} (h : fW s = true) : ∃ a b c d, aA a b c d = true ∧ dc a b c d = s := by
 unfold fW at h
 rw [Bool.and_eq_true, decide_eq_true_iff] at h
 exact ⟨_, _, _, _, h.1, h.2⟩
theorem pF {a b c d : Int} {s : ByteArray} (h : aA a b c d = true) (ht : dc a b c d = s) : bM ([], []) s.data.toList = ([dig a, dig b, dig c], dig d) := by
 subst ht
 rw [oR h]
 show bM ([], []) (fc a b c d).toArray.toList = _
 have e : (fc a b c d).toArray.toList = fc a b c d := by simp
 rw [e, wH (aZ.1 h).1]
theorem Cs {s : ByteArray} (h : (bM ([], []) s.data.toList).1.length ≠ 3) : fW s = false := by
 cases hr : fW s
 ·rfl
 ·obtain ⟨a, b, c, d, h1, h2⟩ := se hr
  rw [pF h1 h2] at h
  exact absurd rfl h
theorem BD {s : ByteArray} {x y z u : List UInt8} (hp : bM ([], []) s.data.toList = ([x, y, z], u)) (ht : dc (cj x) (cj y) (cj z) (cj u) = s) :
  fW s = true ∧ (aE s).a = cj x ∧ (aE s).b = cj y ∧ (aE s).c = cj z ∧ (aE s).d = cj u := by
 cases hr : aA (cj x) (cj y) (cj z) (cj u)
 ·exfalso
  rw [ue hr] at ht
  rw [← ht] at hp
  have : bM ([], []) (⟨#[]⟩ : ByteArray).data.toList = ([], []) := rfl
  rw [this] at hp
  exact absurd (congrArg (fun p => p.1.length) hp) (by simp)
 ·exact xJ hr ht
theorem CR {s : ByteArray} {x y z u : List UInt8} (hp : bM ([], []) s.data.toList = ([x, y, z], u)) (ht : dc (cj x) (cj y) (cj z) (cj u) ≠ s) : fW s = false := by
 cases hr : fW s
 ·rfl
 ·obtain ⟨a, b, c, d, h1, h2⟩ := se hr
  obtain ⟨i1, i2, i3, i4⟩ := bR.1 (aZ.1 h1).1
  have hs := pF h1 h2
  rw [hp] at hs
  obtain ⟨e1, rfl⟩ := Prod.mk.inj hs
  obtain ⟨rfl, e2⟩ := List.cons.inj e1
  obtain ⟨rfl, e3⟩ := List.cons.inj e2
  obtain ⟨rfl, _⟩ := List.cons.inj e3
  rw [mJ i1, mJ i2, mJ i3, mJ i4] at ht
  exact absurd h2 ht
end
end Go.Proofs.YtlleafjdgblhcaaGreatDoor
