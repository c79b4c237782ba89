/- How a turn's text is read, plainly, byte by byte: the program's way, and the specification's; nothing of either in it. -/
import Derived.Test.YtijpnnooenpjoaaDoorTextMath
import Derived.Test.YtijpnnooenpjoaaDoorPlain
namespace Go.Proofs.YtijpnnooenpjoaaDoor
set_option linter.unusedVariables false

/- the program's way: a place, a sign, four parts -/
structure LSt where
  pl : Nat
  sg : Int
  a : Int
  b : Int
  c : Int
  d : Int
def LSt.part (t : LSt) : Int := if t.pl = 0 then t.a else if t.pl = 1 then t.b else if t.pl = 2 then t.c else t.d
def LSt.put (t : LSt) (v : Int) : LSt := if t.pl = 0 then { t with a := v } else if t.pl = 1 then { t with b := v } else if t.pl = 2 then { t with c := v } else { t with d := v }
def stepR (t : LSt) (x : Nat) : Option LSt :=
  if x = 44 ∧ t.pl < 3 then some { t with pl := t.pl + 1, sg := 1 } else if x = 45 then some { t with sg := -1 } else if 48 ≤ x ∧ x ≤ 57 then some (t.put (10 * t.part + t.sg * ((x : Int) - 48))) else none
def stepL (t : LSt) (x : Nat) : Option LSt := (stepR t x).bind fun u => if -5 ≤ u.part ∧ u.part ≤ 5 then some u else none
def st0 : LSt := ⟨0, 1, 0, 0, 0, 0⟩
def looseN (s : ByteArray) : Nat → Option LSt
  | 0 => some st0
  | k + 1 => (looseN s k).bind fun t => stepL t (byteN s k)
def looseL : LSt → List UInt8 → Option LSt
  | t, [] => some t
  | t, x :: r => (stepL t x.toNat).bind fun u => looseL u r
def okS (t : LSt) : Prop := t.pl ≤ 3 ∧ (t.sg = 1 ∨ t.sg = -1) ∧ (-5 ≤ t.a ∧ t.a ≤ 5) ∧ (-5 ≤ t.b ∧ t.b ≤ 5) ∧ (-5 ≤ t.c ∧ t.c ≤ 5) ∧ (-5 ≤ t.d ∧ t.d ≤ 5)
theorem okS_part {t : LSt} (h : okS t) : -5 ≤ t.part ∧ t.part ≤ 5 := by
  obtain ⟨h0, h1, h2, h3, h4, h5⟩ := h
  unfold LSt.part
  split
  · exact h2
  · split
    · exact h3
    · split
      · exact h4
      · exact h5
theorem looseN_none {s : ByteArray} {k n : Nat} (h : looseN s k = none) (hn : k ≤ n) : looseN s n = none := by
  induction n with
  | zero => rw [show k = 0 by omega] at h; exact h
  | succ n ih =>
    by_cases e : k = n + 1
    · rw [← e]; exact h
    · show (looseN s n).bind _ = none
      rw [ih (by omega)]; rfl
theorem looseL_append (t : LSt) (l r : List UInt8) : looseL t (l ++ r) = (looseL t l).bind fun u => looseL u r := by
  induction l generalizing t with
  | nil => rfl
  | cons x l ih =>
    show (stepL t x.toNat).bind (fun u => looseL u (l ++ r)) = ((stepL t x.toNat).bind fun u => looseL u l).bind fun u => looseL u r
    cases stepL t x.toNat with
    | none => rfl
    | some u => exact ih u
theorem byteN_list (s : ByteArray) (k : Nat) (h : k < s.size) : s.data.toList[k]? = some s[k] := by
  rw [Array.getElem?_toList]
  exact Array.getElem?_eq_getElem h
theorem looseN_take (s : ByteArray) (k : Nat) (h : k ≤ s.size) : looseN s k = looseL st0 (s.data.toList.take k) := by
  induction k with
  | zero => rfl
  | succ k ih =>
    have hk : k < s.size := by omega
    have hl : k < s.data.toList.length := by simpa using hk
    have e : s.data.toList.take (k + 1) = s.data.toList.take k ++ [s.data.toList[k]] := by rw [List.take_succ_eq_append_getElem hl]
    have e2 : s.data.toList[k] = s[k] := by
      have := byteN_list s k hk
      rw [List.getElem?_eq_getElem hl] at this
      exact Option.some.inj this
    rw [e, looseL_append, ← ih (by omega), e2]
    show (looseN s k).bind _ = (looseN s k).bind _
    congr 1
    funext t
    show stepL t (byteN s k) = (stepL t s[k].toNat).bind fun u => some u
    rw [byteN_lt hk]
    cases stepL t s[k].toNat <;> rfl
theorem looseN_all (s : ByteArray) : looseN s s.size = looseL st0 s.data.toList := by
  rw [looseN_take s s.size (Nat.le_refl _)]
  congr 1
  exact List.take_of_length_le (by simp)
def sgO (n : Int) : Int := if n < 0 then -1 else 1
theorem dig0 {n : Int} (h : -5 ≤ n ∧ n ≤ 5) (r : List UInt8) : looseL ⟨0, 1, 0, 0, 0, 0⟩ (dig n ++ r) = looseL ⟨0, sgO n, n, 0, 0, 0⟩ r := by
  have hh : n = -5 ∨ n = -4 ∨ n = -3 ∨ n = -2 ∨ n = -1 ∨ n = 0 ∨ n = 1 ∨ n = 2 ∨ n = 3 ∨ n = 4 ∨ n = 5 := by omega
  rcases hh with rfl | rfl | rfl | rfl | rfl | rfl | rfl | rfl | rfl | rfl | rfl <;> rfl
theorem dig1 {n : Int} (h : -5 ≤ n ∧ n ≤ 5) (a : Int) (r : List UInt8) : looseL ⟨1, 1, a, 0, 0, 0⟩ (dig n ++ r) = looseL ⟨1, sgO n, a, n, 0, 0⟩ r := by
  have hh : n = -5 ∨ n = -4 ∨ n = -3 ∨ n = -2 ∨ n = -1 ∨ n = 0 ∨ n = 1 ∨ n = 2 ∨ n = 3 ∨ n = 4 ∨ n = 5 := by omega
  rcases hh with rfl | rfl | rfl | rfl | rfl | rfl | rfl | rfl | rfl | rfl | rfl <;> rfl
theorem dig2 {n : Int} (h : -5 ≤ n ∧ n ≤ 5) (a b : Int) (r : List UInt8) : looseL ⟨2, 1, a, b, 0, 0⟩ (dig n ++ r) = looseL ⟨2, sgO n, a, b, n, 0⟩ r := by
  have hh : n = -5 ∨ n = -4 ∨ n = -3 ∨ n = -2 ∨ n = -1 ∨ n = 0 ∨ n = 1 ∨ n = 2 ∨ n = 3 ∨ n = 4 ∨ n = 5 := by omega
  rcases hh with rfl | rfl | rfl | rfl | rfl | rfl | rfl | rfl | rfl | rfl | rfl <;> rfl
theorem dig3 {n : Int} (h : -5 ≤ n ∧ n ≤ 5) (a b c : Int) (r : List UInt8) : looseL ⟨3, 1, a, b, c, 0⟩ (dig n ++ r) = looseL ⟨3, sgO n, a, b, c, n⟩ r := by
  have hh : n = -5 ∨ n = -4 ∨ n = -3 ∨ n = -2 ∨ n = -1 ∨ n = 0 ∨ n = 1 ∨ n = 2 ∨ n = 3 ∨ n = 4 ∨ n = 5 := by omega
  rcases hh with rfl | rfl | rfl | rfl | rfl | rfl | rfl | rfl | rfl | rfl | rfl <;> rfl
theorem com0 (a g : Int) (r : List UInt8) : looseL ⟨0, g, a, 0, 0, 0⟩ (44 :: r) = looseL ⟨1, 1, a, 0, 0, 0⟩ r := rfl
theorem com1 (a b g : Int) (r : List UInt8) : looseL ⟨1, g, a, b, 0, 0⟩ (44 :: r) = looseL ⟨2, 1, a, b, 0, 0⟩ r := rfl
theorem com2 (a b c g : Int) (r : List UInt8) : looseL ⟨2, g, a, b, c, 0⟩ (44 :: r) = looseL ⟨3, 1, a, b, c, 0⟩ r := rfl
theorem loose_back {a b c d : Int} (h : inT 5 a b c d = true) : looseL st0 (textD a b c d) = some ⟨3, sgO d, a, b, c, d⟩ := by
  obtain ⟨h1, h2, h3, h4⟩ := inT_iff.1 h
  unfold textD st0
  rw [dig0 h1, com0, dig1 h2, com1, dig2 h3, com2]
  have := dig3 h4 a b c []
  rw [List.append_nil] at this
  rw [this]; rfl
/- the parts that come of a text -/
def looseP (s : ByteArray) : LSt := (looseN s s.size).getD ⟨0, 0, 0, 0, 0, 0⟩
theorem looseP_back {a b c d : Int} (h : rightT a b c d = true) : (looseP (textB a b c d)).a = a ∧ (looseP (textB a b c d)).b = b ∧ (looseP (textB a b c d)).c = c ∧ (looseP (textB a b c d)).d = d := by
  unfold looseP
  rw [looseN_all, text_ok h]
  show ((looseL st0 (textD a b c d).toArray.toList).getD _).a = a ∧ _
  have e : (textD a b c d).toArray.toList = textD a b c d := by simp
  rw [e, loose_back (rightT_iff.1 h).1]
  exact ⟨rfl, rfl, rfl, rfl⟩

/- what is answered: the one turn whose text this is, if there is one -/
def readR (s : ByteArray) : Bool := rightT (looseP s).a (looseP s).b (looseP s).c (looseP s).d && decide (textB (looseP s).a (looseP s).b (looseP s).c (looseP s).d = s)
def readP (s : ByteArray) (v : Int) : Int := if s.size ≤ 8000 ∧ readR s = true then v else 0
def readC (s : ByteArray) : Int := if s.size ≤ 8000 then (if readR s then 0 else 3) else 2
theorem readR_some {a b c d : Int} {s : ByteArray} (h : rightT a b c d = true) (ht : textB a b c d = s) : readR s = true ∧ (looseP s).a = a ∧ (looseP s).b = b ∧ (looseP s).c = c ∧ (looseP s).d = d := by
  subst ht
  obtain ⟨e1, e2, e3, e4⟩ := looseP_back h
  refine ⟨?_, e1, e2, e3, e4⟩
  unfold readR
  rw [e1, e2, e3, e4, h]
  simp
theorem text_ne {a b c d : Int} (h : rightT a b c d = true) : (textB a b c d).size ≠ 0 := by
  rw [text_ok h]
  have := dig_ne a
  show (textD a b c d).toArray.size ≠ 0
  unfold textD
  simp
theorem text_size {a b c d : Int} : (textB a b c d).size ≤ 11 := by
  unfold textB
  split
  · have := text_len a b c d
    show (textD a b c d).toArray.size ≤ 11
    simpa using this
  · show (#[] : Array UInt8).size ≤ 11
    simp

/- the specification's way: pieces between commas -/
def splitL : List (List UInt8) × List UInt8 → List UInt8 → List (List UInt8) × List UInt8
  | p, [] => p
  | p, x :: r => if x = 44 then splitL (p.1 ++ [p.2], []) r else splitL (p.1, p.2 ++ [x]) r
theorem splitL_append (p : List (List UInt8) × List UInt8) (l r : List UInt8) : splitL p (l ++ r) = splitL (splitL p l) r := by
  induction l generalizing p with
  | nil => rfl
  | cons x l ih =>
    show (if x = 44 then splitL _ (l ++ r) else splitL _ (l ++ r)) = splitL (if x = 44 then splitL _ l else splitL _ l) r
    split
    · exact ih _
    · exact ih _
theorem splitL_dig {n : Int} (h : -5 ≤ n ∧ n ≤ 5) (acc : List (List UInt8)) (r : List UInt8) : splitL (acc, []) (dig n ++ r) = splitL (acc, dig n) r := by
  have hh : n = -5 ∨ n = -4 ∨ n = -3 ∨ n = -2 ∨ n = -1 ∨ n = 0 ∨ n = 1 ∨ n = 2 ∨ n = 3 ∨ n = 4 ∨ n = 5 := by omega
  rcases hh with rfl | rfl | rfl | rfl | rfl | rfl | rfl | rfl | rfl | rfl | rfl <;> rfl
theorem splitL_com (acc : List (List UInt8)) (cur r : List UInt8) : splitL (acc, cur) (44 :: r) = splitL (acc ++ [cur], []) r := rfl
theorem split_back {a b c d : Int} (h : inT 5 a b c d = true) : splitL ([], []) (textD a b c d) = ([dig a, dig b, dig c], dig d) := by
  obtain ⟨h1, h2, h3, h4⟩ := inT_iff.1 h
  unfold textD
  rw [splitL_dig h1, splitL_com, splitL_dig h2, splitL_com, splitL_dig h3, splitL_com]
  have := splitL_dig h4 ([] ++ [dig a] ++ [dig b] ++ [dig c]) []
  rw [List.append_nil] at this
  rw [this]; rfl
/- the number that a piece is -/
def partL (l : List UInt8) : Int :=
  match l with
  | [x] => if 48 ≤ x.toNat ∧ x.toNat ≤ 57 then (x.toNat : Int) - 48 else 9
  | [x, y] => if x.toNat = 45 ∧ 48 ≤ y.toNat ∧ y.toNat ≤ 57 then -((y.toNat : Int) - 48) else 9
  | _ => 9
theorem part_dig {n : Int} (h : -5 ≤ n ∧ n ≤ 5) : partL (dig n) = n := by
  have hh : n = -5 ∨ n = -4 ∨ n = -3 ∨ n = -2 ∨ n = -1 ∨ n = 0 ∨ n = 1 ∨ n = 2 ∨ n = 3 ∨ n = 4 ∨ n = 5 := by omega
  rcases hh with rfl | rfl | rfl | rfl | rfl | rfl | rfl | rfl | rfl | rfl | rfl <;> rfl
theorem readR_iff {s : ByteArray} (h : readR s = true) : ∃ a b c d, rightT a b c d = true ∧ textB a b c d = s := by
  unfold readR at h
  rw [Bool.and_eq_true, decide_eq_true_iff] at h
  exact ⟨_, _, _, _, h.1, h.2⟩
theorem split_text {a b c d : Int} {s : ByteArray} (h : rightT a b c d = true) (ht : textB a b c d = s) : splitL ([], []) s.data.toList = ([dig a, dig b, dig c], dig d) := by
  subst ht
  rw [text_ok h]
  show splitL ([], []) (textD a b c d).toArray.toList = _
  have e : (textD a b c d).toArray.toList = textD a b c d := by simp
  rw [e, split_back (rightT_iff.1 h).1]
theorem spec_len {s : ByteArray} (h : (splitL ([], []) s.data.toList).1.length ≠ 3) : readR s = false := by
  cases hr : readR s
  · rfl
  · obtain ⟨a, b, c, d, h1, h2⟩ := readR_iff hr
    rw [split_text h1 h2] at h
    exact absurd rfl h
theorem spec_yes {s : ByteArray} {x y z u : List UInt8} (hp : splitL ([], []) s.data.toList = ([x, y, z], u)) (ht : textB (partL x) (partL y) (partL z) (partL u) = s) :
    readR s = true ∧ (looseP s).a = partL x ∧ (looseP s).b = partL y ∧ (looseP s).c = partL z ∧ (looseP s).d = partL u := by
  cases hr : rightT (partL x) (partL y) (partL z) (partL u)
  · exfalso
    rw [text_no hr] at ht
    rw [← ht] at hp
    have : splitL ([], []) (⟨#[]⟩ : ByteArray).data.toList = ([], []) := rfl
    rw [this] at hp
    exact absurd (congrArg (fun p => p.1.length) hp) (by simp)
  · exact readR_some hr ht
theorem spec_no {s : ByteArray} {x y z u : List UInt8} (hp : splitL ([], []) s.data.toList = ([x, y, z], u)) (ht : textB (partL x) (partL y) (partL z) (partL u) ≠ s) : readR s = false := by
  cases hr : readR s
  · rfl
  · obtain ⟨a, b, c, d, h1, h2⟩ := readR_iff hr
    obtain ⟨i1, i2, i3, i4⟩ := inT_iff.1 (rightT_iff.1 h1).1
    have hs := split_text h1 h2
    rw [hp] at hs
    obtain ⟨e1, rfl⟩ := Prod.mk.inj hs
    obtain ⟨rfl, e2⟩ := List.cons.inj e1
    obtain ⟨rfl, e3⟩ := List.cons.inj e2
    obtain ⟨rfl, _⟩ := List.cons.inj e3
    rw [part_dig i1, part_dig i2, part_dig i3, part_dig i4] at ht
    exact absurd h2 ht
end Go.Proofs.YtijpnnooenpjoaaDoor
