/- Several texts in one: IeM, IeP, FrC, NaA, IdA, IdB, IdC, RowV, ListI, IdW, PairA, PairB, PairC, PairD, PairE, PairF, PairM, PairN. -/
import Derived.Laws.BytesArg
import Derived.BigRegion
import Derived.Lib.QuietBelow
import Derived.Deep.QuietTactic
import Derived.BigQuiet
import Derived.OwnWalk
import Derived.Laws.OwnMore
import Derived.Test.YtgiodlllokdcdaaGreatDoorRows
import Derived.Deep.Slices
import Derived.Deep.Strs
import Derived.LaidHandle
import Derived.LaidMore
import Derived.ProofKit
import Derived.Test.YtgiodlllokdcdaaGreatDoorQFnModeOwn3
import Derived.Test.YtgiodlllokdcdaaGreatDoorQFnModeOwn1
import Derived.Test.YtgiodlllokdcdaaGreatDoorQFnModeOwn2
namespace Go.Proofs.YtgiodlllokdcdaaGreatDoor
set_option linter.unusedVariables false
set_option linter.unusedSimpArgs false
set_option maxRecDepth 100000
set_option maxHeartbeats 8000000
section
def aJ (ids : List Int) : Nat := ids.countP (fun x => decide (x ≠ 0))
theorem fN (ids : List Int) (a : Int) : aJ (ids ++ [a]) = aJ ids + if a ≠ 0 then 1 else 0 := by
 unfold aJ
 rw [List.countP_append, List.countP_singleton]
 by_cases h : a = 0 <;> simp [h]
def dR (F : List Int → Int → Bool) (A : List Int) : Nat → List Int → List (List Int)
 | 0, ids => [ids]
 | r + 1, ids => (A.filter (F ids)).flatMap (fun a => dR F A r (ids ++ [a])) ++ dR F A r (ids ++ [0])
theorem jf (F : List Int → Int → Bool) (A : List Int) : ∀ (r : Nat) (ids l : List Int), l ∈ dR F A r ids → aJ l ≤ aJ ids + r
 | 0, ids, l, h => by
  simp only [dR, List.mem_singleton] at h
  subst h
  omega
 | r + 1, ids, l, h => by
  simp only [dR, List.mem_append, List.mem_flatMap] at h
  rcases h with ⟨a, _, h⟩ | h
  ·have := jf F A r _ l h
   rw [fN] at this
   split at this <;> omega
  ·have := jf F A r _ l h
   rw [fN] at this
   simp at this
   omega
structure SeN where
 best : List Int
 count : Nat
 many : Nat
def cd (s : SeN) (l : List Int) : SeN :=
 if s.count < aJ l then ⟨l, aJ l, 1⟩ else if aJ l = s.count then ⟨l, s.count, s.many + 1⟩ else s
theorem kL {s : SeN} {l : List Int} (h : aJ l < s.count) : cd s l = s := by
 unfold cd
 rw [if_neg (by omega), if_neg (by omega)]
theorem lG : ∀ (L : List (List Int)) (s : SeN), (∀ l ∈ L, aJ l < s.count) → L.foldl cd s = s
 | [], s, _ => rfl
 | l :: L, s, h => by
  rw [List.foldl_cons, kL (h l (by simp))]
  exact lG L s (fun x hx => h x (by simp [hx]))
def dx (F : List Int → Int → Bool) (A : List Int) : Nat → List Int → SeN → SeN
 | 0, ids, s => if aJ ids + 0 < s.count then s else cd s ids
 | r + 1, ids, s => if aJ ids + (r + 1) < s.count then s else dx F A r (ids ++ [0]) (A.foldl (fun s a => if F ids a = true then dx F A r (ids ++ [a]) s else s) s)
theorem kx {α β : Type} (p : α → Bool) (f : β → α → β) : ∀ (L : List α) (s : β), L.foldl (fun s a => if p a = true then f s a else s) s = (L.filter p).foldl f s
 | [], s => rfl
 | a :: L, s => by
  rw [List.foldl_cons, kx p f L]
  cases h : p a
  ·rw [List.filter_cons_of_neg (by simp [h])]; simp
  ·rw [List.filter_cons_of_pos h]; simp
theorem nr {α β γ : Type} (g : α → List γ) (f : β → γ → β) : ∀ (L : List α) (s : β), (L.flatMap g).foldl f s = L.foldl (fun s a => (g a).foldl f s) s
 | [], s => rfl
 | a :: L, s => by
  rw [List.flatMap_cons, List.foldl_append, nr g f L, List.foldl_cons]
theorem gK (F : List Int → Int → Bool) (A : List Int) : ∀ (r : Nat) (ids : List Int) (s : SeN), dx F A r ids s = (dR F A r ids).foldl cd s
 | 0, ids, s => by
  unfold dx dR
  split
  ·rename_i h
   rw [List.foldl_cons, List.foldl_nil, kL (by omega)]
  ·rfl
 | r + 1, ids, s => by
  unfold dx
  split
  ·rename_i h
   exact (lG _ s (fun l hl => by have := jf F A (r + 1) ids l hl; omega)).symm
  ·rw [gK F A r, dR, List.foldl_append, nr, ← kx (F ids) (fun s a => (dR F A r (ids ++ [a])).foldl cd s) A s]
   congr 1
   congr 1
   funext s a
   rw [gK F A r]
def bT (g : List Int × Nat) (l : List Int) : List Int × Nat :=
 if aJ l < 3 ∨ aJ l < aJ g.1 then g else if aJ g.1 < aJ l then (l, 1) else (g.1, g.2 + 1)
def nc (s : SeN) (g : List Int × Nat) : Prop :=
 (s.many = 0 ∧ s.count = 3 ∧ g = ([], 0)) ∨ (1 ≤ s.many ∧ 3 ≤ s.count ∧ aJ g.1 = s.count ∧ g.2 = s.many ∧ (s.many = 1 → s.best = g.1))
theorem qW {s : SeN} {g : List Int × Nat} (h : nc s g) (l : List Int) : nc (cd s l) (bT g l) := by
 rcases h with ⟨h1, h2, rfl⟩ | ⟨h1, h2, h3, h4, h5⟩
 ·have h0 : aJ ([] : List Int) = 0 := rfl
  unfold cd bT
  simp only [h0]
  by_cases c : aJ l < 3
  ·rw [if_neg (by omega), if_neg (by omega), if_pos (by omega)]
   exact .inl ⟨h1, h2, rfl⟩
  ·rw [if_neg (show ¬ (aJ l < 3 ∨ aJ l < 0) by omega), if_pos (show 0 < aJ l by omega)]
   by_cases c2 : s.count < aJ l
   ·rw [if_pos c2]
    exact .inr ⟨Nat.le_refl _, by show 3 ≤ aJ l; omega, rfl, rfl, fun _ => rfl⟩
   ·rw [if_neg c2, if_pos (by omega)]
    exact .inr ⟨by show 1 ≤ s.many + 1; omega, by show 3 ≤ s.count; omega, by show aJ l = s.count; omega, by show 1 = s.many + 1; omega, fun _ => rfl⟩
 ·unfold cd bT
  by_cases c : aJ l < s.count
  ·rw [if_neg (by omega), if_neg (by omega), if_pos (by omega)]
   exact .inr ⟨h1, h2, h3, h4, h5⟩
  ·rw [if_neg (show ¬ (aJ l < 3 ∨ aJ l < aJ g.1) by omega)]
   by_cases c2 : s.count < aJ l
   ·rw [if_pos c2, if_pos (show aJ g.1 < aJ l by omega)]
    exact .inr ⟨Nat.le_refl _, by show 3 ≤ aJ l; omega, rfl, rfl, fun _ => rfl⟩
   ·rw [if_neg c2, if_pos (by omega), if_neg (show ¬ aJ g.1 < aJ l by omega)]
    exact .inr ⟨by show 1 ≤ s.many + 1; omega, h2, h3, by show g.2 + 1 = s.many + 1; omega, fun e => by have e' : s.many + 1 = 1 := e; omega⟩
theorem ml : ∀ (L : List (List Int)) {s : SeN} {g : List Int × Nat}, nc s g → nc (L.foldl cd s) (L.foldl bT g)
 | [], _, _, h => h
 | l :: L, _, _, h => ml L (qW h l)
theorem sS (F : List Int → Int → Bool) (A : List Int) (n : Nat) : nc (dx F A n [] ⟨[], 3, 0⟩) ((dR F A n []).foldl bT ([], 0)) := by
 rw [gK]
 exact ml _ (.inl ⟨rfl, rfl, rfl⟩)
theorem ql (s : SeN) (l : List Int) : (cd s l).many ≤ s.many + 1 := by
 unfold cd
 split
 ·show 1 ≤ s.many + 1; omega
 ·split
  ·exact Nat.le_refl _
  ·omega
theorem kw : ∀ (L : List (List Int)) (s : SeN), (L.foldl cd s).many ≤ s.many + L.length
 | [], s => Nat.le_refl _
 | l :: L, s => by
  rw [List.foldl_cons, List.length_cons]
  have h1 := kw L (cd s l)
  have h2 := ql s l
  omega
theorem py {α β : Type} (f : α → List β) (c : Nat) (hf : ∀ a, (f a).length ≤ c) : ∀ L : List α, (L.flatMap f).length ≤ L.length * c
 | [] => by simp
 | a :: L => by
  rw [List.flatMap_cons, List.length_append, List.length_cons, Nat.succ_mul]
  have := hf a
  have := py f c hf L
  omega
theorem jg (F : List Int → Int → Bool) (A : List Int) (hA : A.length ≤ 12) : ∀ (r : Nat) (ids : List Int), (dR F A r ids).length ≤ 13 ^ r
 | 0, ids => by simp [dR]
 | r + 1, ids => by
  unfold dR
  rw [List.length_append]
  have h1 := py (fun a => dR F A r (ids ++ [a])) (13 ^ r) (fun a => jg F A hA r _) (A.filter (F ids))
  have h2 := jg F A hA r (ids ++ [0])
  have h3 : (A.filter (F ids)).length ≤ 12 := Nat.le_trans (List.length_filter_le _ _) hA
  have h4 : (A.filter (F ids)).length * 13 ^ r ≤ 12 * 13 ^ r := Nat.mul_le_mul_right _ h3
  rw [Nat.pow_succ]
  omega
theorem qD (F : List Int → Int → Bool) (A : List Int) (hA : A.length ≤ 12) (r : Nat) (ids : List Int) (s : SeN) : (dx F A r ids s).many ≤ s.many + 13 ^ r := by
 rw [gK]
 have h1 := kw (dR F A r ids) s
 have h2 := jg F A hA r ids
 omega
def dV (F : List Int → Int → Bool) (A : List Int) (r : Nat) (ids : List Int) (s : SeN) (i : Nat) : SeN := (A.take i).foldl (fun s a => if F ids a = true then dx F A r (ids ++ [a]) s else s) s
theorem lR (F : List Int → Int → Bool) (A : List Int) (r : Nat) (ids : List Int) (s : SeN) : dV F A r ids s 0 = s := rfl
theorem gn (F : List Int → Int → Bool) (A : List Int) (r : Nat) (ids : List Int) (s : SeN) {i : Nat} (hi : i < A.length) : dV F A r ids s (i + 1) = if F ids (A.getD i 0) = true then dx F A r (ids ++ [A.getD i 0]) (dV F A r ids s i) else dV F A r ids s i := by
 unfold dV
 rw [List.take_succ_eq_append_getElem hi, List.foldl_append]
 have e : A.getD i 0 = A[i] := by rw [List.getD_eq_getElem?_getD, List.getElem?_eq_getElem hi]; rfl
 rw [e]
 rfl
theorem lQ (F : List Int → Int → Bool) (A : List Int) (hA : A.length ≤ 12) (r : Nat) (ids : List Int) (s : SeN) : ∀ i, i ≤ A.length → (dV F A r ids s i).many ≤ s.many + i * 13 ^ r
 | 0, _ => by rw [lR]; omega
 | i + 1, h => by
  rw [gn F A r ids s (by omega), Nat.succ_mul]
  have h1 := lQ F A hA r ids s i (by omega)
  split
  ·have h2 := qD F A hA r (ids ++ [A.getD i 0]) (dV F A r ids s i)
   generalize 13 ^ r = p at *
   omega
  ·generalize 13 ^ r = p at *
   omega
theorem pB {F : List Int → Int → Bool} {A : List Int} {r : Nat} {ids : List Int} {s : SeN} (h : aJ ids + r < s.count) : dx F A r ids s = s := by
 cases r with
 | zero => unfold dx; rw [if_pos h]
 | succ r => unfold dx; rw [if_pos h]
theorem qC {F : List Int → Int → Bool} {A : List Int} {ids : List Int} {s : SeN} (h : ¬ aJ ids + 0 < s.count) : dx F A 0 ids s = cd s ids := by unfold dx; rw [if_neg h]
theorem qE {F : List Int → Int → Bool} {A : List Int} {r : Nat} {ids : List Int} {s : SeN} (h : ¬ aJ ids + (r + 1) < s.count) : dx F A (r + 1) ids s = dx F A r (ids ++ [0]) (dV F A r ids s A.length) := by
 rw [dx, if_neg h]
 unfold dV
 rw [List.take_length]
theorem eU (ids : List Int) : aJ ids ≤ ids.length := List.countP_le_length
theorem oZ (s : SeN) (l : List Int) : (cd s l).count ≤ max s.count (aJ l) := by
 unfold cd
 split
 ·show aJ l ≤ _; omega
 ·split
  ·show s.count ≤ _; omega
  ·omega
end
section
open Go.RowKit Go.Sort
def Blk (w : World) (b : Nat) (cs : List Value) (t : TypeId) : Prop := w.heap[b]? = some (.cells cs.toArray t (0, 0))
theorem Blk.lt {w : World} {b : Nat} {cs : List Value} {t : TypeId} (h : Blk w b cs t) : b < w.heap.size := (Array.getElem?_eq_some_iff.1 h).1
theorem Blk.kept {w w' : World} {b : Nat} {cs : List Value} {t : TypeId} (h : Blk w b cs t) (hB : Below w.heap.size w w') : Blk w' b cs t := (hB.block b h.lt).trans h
theorem aD (w : World) (cs : List Value) (t : TypeId) : Blk (w.alloc (.cells cs.toArray t)) w.heap.size cs t := heap_alloc_new w _
theorem Blk.alloc {w : World} {b : Nat} {cs : List Value} {t : TypeId} (h : Blk w b cs t) (o : Obj) : Blk (w.alloc o) b cs t := h.kept (an _ _)
theorem Blk.cell {w : World} {b : Nat} {cs : List Value} {t : TypeId} (h : Blk w b cs t) (i : Nat) (v : Value) (hv : cs[i]? = some v) : w.cell? ⟨b, i, none⟩ = some v := by
 rw [cell_of_row w b i _ _ _ h]; simpa using hv
theorem Blk.free {w : World} {b : Nat} {cs : List Value} {t : TypeId} (h : Blk w b cs t) (i : Nat) : w.frozen? ⟨b, i, none⟩ = false := frozen_of_row w b i _ _ h
theorem Blk.set {w : World} {b : Nat} {cs : List Value} {t : TypeId} (h : Blk w b cs t) (i : Nat) (v : Value) : Blk (w.setCell ⟨b, i, none⟩ v) b (cs.set i v) t := by
 have := heap_setCell_same w b i _ _ v h
 unfold Blk
 rw [this]
 simp
theorem Blk.other {w : World} {b : Nat} {cs : List Value} {t : TypeId} (h : Blk w b cs t) (a : Addr) (v : Value) (hne : b ≠ a.block) : Blk (w.setCell a v) b cs t := by
 unfold Blk
 rw [heap_setCell_other w a b v hne]
 exact h
def nV (w : World) (b n : Nat) (f : Nat → Int) : Prop := ∀ j, j < n → w.cell? ⟨b, j, none⟩ = some (.int .u8 (f j)) ∧ w.frozen? ⟨b, j, none⟩ = false
theorem nV.kept {w w' : World} {b n : Nat} {f : Nat → Int} (h : nV w b n f) (hb : b < w.heap.size) (hB : Below w.heap.size w w') : nV w' b n f := fun j hj =>
 ⟨by rw [hB.cell (p := ⟨b, j, none⟩) hb]; exact (h j hj).1, by rw [hB.frozen (p := ⟨b, j, none⟩) hb]; exact (h j hj).2⟩
theorem nV.congr {w : World} {b n : Nat} {f f' : Nat → Int} (h : nV w b n f) (e : ∀ j, j < n → f j = f' j) : nV w b n f' := fun j hj => ⟨by rw [(h j hj).1, e j hj], (h j hj).2⟩
theorem nV.set {w : World} {b n : Nat} {f : Nat → Int} (h : nV w b n f) (i : Nat) (hi : i < n) (v : Int) : nV (w.setCell ⟨b, i, none⟩ (.int .u8 v)) b n (fun j => if j = i then v else f j) := fun j hj => by
 refine ⟨?_, ?_⟩
 ·show _ = some (Value.int .u8 (if j = i then v else f j))
  by_cases e : j = i
  ·subst e
   rw [if_pos rfl, World.cell?_setCell_same _ _ _ (h j hj).1]
  ·rw [if_neg e, World.cell?_setCell_other _ _ _ _ (fun h => e (by simpa using (congrArg Addr.off h).symm)), (h j hj).1]
 ·rw [← (h j hj).2]
  simp
theorem lm {w : World} {b : Nat} {t : TypeId} {x0 x1 x2 : Value} {r : List Value} (h : Blk w b (x0 :: x1 :: x2 :: r) t) : w.cell? ⟨b, 0, none⟩ = some x0 ∧ w.cell? ⟨b, 1, none⟩ = some x1 ∧ w.cell? ⟨b, 2, none⟩ = some x2 := ⟨h.cell 0 _ rfl, h.cell 1 _ rfl, h.cell 2 _ rfl⟩
theorem bcs4 {w : World} {b : Nat} {t : TypeId} {x0 x1 x2 x3 : Value} {r : List Value} (h : Blk w b (x0 :: x1 :: x2 :: x3 :: r) t) : w.cell? ⟨b, 0, none⟩ = some x0 ∧ w.cell? ⟨b, 1, none⟩ = some x1 ∧ w.cell? ⟨b, 2, none⟩ = some x2 ∧ w.cell? ⟨b, 3, none⟩ = some x3 := ⟨h.cell 0 _ rfl, h.cell 1 _ rfl, h.cell 2 _ rfl, h.cell 3 _ rfl⟩
theorem jj {w : World} {b : Nat} {t : TypeId} {x0 x1 x2 x3 x4 : Value} {r : List Value} (h : Blk w b (x0 :: x1 :: x2 :: x3 :: x4 :: r) t) : w.cell? ⟨b, 0, none⟩ = some x0 ∧ w.cell? ⟨b, 1, none⟩ = some x1 ∧ w.cell? ⟨b, 2, none⟩ = some x2 ∧ w.cell? ⟨b, 3, none⟩ = some x3 ∧ w.cell? ⟨b, 4, none⟩ = some x4 := ⟨h.cell 0 _ rfl, h.cell 1 _ rfl, h.cell 2 _ rfl, h.cell 3 _ rfl, h.cell 4 _ rfl⟩
theorem dM {w : World} {b : Nat} {t : TypeId} {x0 x1 x2 x3 x4 x5 x6 x7 x8 : Value} {r : List Value} (h : Blk w b (x0 :: x1 :: x2 :: x3 :: x4 :: x5 :: x6 :: x7 :: x8 :: r) t) : w.cell? ⟨b, 0, none⟩ = some x0 ∧ w.cell? ⟨b, 1, none⟩ = some x1 ∧ w.cell? ⟨b, 2, none⟩ = some x2 ∧ w.cell? ⟨b, 3, none⟩ = some x3 ∧ w.cell? ⟨b, 4, none⟩ = some x4 ∧ w.cell? ⟨b, 5, none⟩ = some x5 ∧ w.cell? ⟨b, 6, none⟩ = some x6 ∧ w.cell? ⟨b, 7, none⟩ = some x7 ∧ w.cell? ⟨b, 8, none⟩ = some x8 := ⟨h.cell 0 _ rfl, h.cell 1 _ rfl, h.cell 2 _ rfl, h.cell 3 _ rfl, h.cell 4 _ rfl, h.cell 5 _ rfl, h.cell 6 _ rfl, h.cell 7 _ rfl, h.cell 8 _ rfl⟩
theorem ej {w : World} {b : Nat} {t : TypeId} {x0 x1 x2 x3 x4 x5 x6 x7 x8 x9 : Value} {r : List Value} (h : Blk w b (x0 :: x1 :: x2 :: x3 :: x4 :: x5 :: x6 :: x7 :: x8 :: x9 :: r) t) : w.cell? ⟨b, 0, none⟩ = some x0 ∧ w.cell? ⟨b, 1, none⟩ = some x1 ∧ w.cell? ⟨b, 2, none⟩ = some x2 ∧ w.cell? ⟨b, 3, none⟩ = some x3 ∧ w.cell? ⟨b, 4, none⟩ = some x4 ∧ w.cell? ⟨b, 5, none⟩ = some x5 ∧ w.cell? ⟨b, 6, none⟩ = some x6 ∧ w.cell? ⟨b, 7, none⟩ = some x7 ∧ w.cell? ⟨b, 8, none⟩ = some x8 ∧ w.cell? ⟨b, 9, none⟩ = some x9 := ⟨h.cell 0 _ rfl, h.cell 1 _ rfl, h.cell 2 _ rfl, h.cell 3 _ rfl, h.cell 4 _ rfl, h.cell 5 _ rfl, h.cell 6 _ rfl, h.cell 7 _ rfl, h.cell 8 _ rfl, h.cell 9 _ rfl⟩
theorem bfs3 {w : World} {b : Nat} {t : TypeId} {cs : List Value} (h : Blk w b cs t) : w.frozen? ⟨b, 0, none⟩ = false ∧ w.frozen? ⟨b, 1, none⟩ = false ∧ w.frozen? ⟨b, 2, none⟩ = false := ⟨h.free 0, h.free 1, h.free 2⟩
theorem nZ {w : World} {b : Nat} {t : TypeId} {cs : List Value} (h : Blk w b cs t) : w.frozen? ⟨b, 0, none⟩ = false ∧ w.frozen? ⟨b, 1, none⟩ = false ∧ w.frozen? ⟨b, 2, none⟩ = false ∧ w.frozen? ⟨b, 3, none⟩ = false ∧ w.frozen? ⟨b, 4, none⟩ = false := ⟨h.free 0, h.free 1, h.free 2, h.free 3, h.free 4⟩
theorem iQ {w : World} {b : Nat} {t : TypeId} {cs : List Value} (h : Blk w b cs t) : w.frozen? ⟨b, 0, none⟩ = false ∧ w.frozen? ⟨b, 1, none⟩ = false ∧ w.frozen? ⟨b, 2, none⟩ = false ∧ w.frozen? ⟨b, 3, none⟩ = false ∧ w.frozen? ⟨b, 4, none⟩ = false ∧ w.frozen? ⟨b, 5, none⟩ = false ∧ w.frozen? ⟨b, 6, none⟩ = false ∧ w.frozen? ⟨b, 7, none⟩ = false ∧ w.frozen? ⟨b, 8, none⟩ = false := ⟨h.free 0, h.free 1, h.free 2, h.free 3, h.free 4, h.free 5, h.free 6, h.free 7, h.free 8⟩
theorem eB {w : World} {b : Nat} {t : TypeId} {cs : List Value} (h : Blk w b cs t) : w.frozen? ⟨b, 0, none⟩ = false ∧ w.frozen? ⟨b, 1, none⟩ = false ∧ w.frozen? ⟨b, 2, none⟩ = false ∧ w.frozen? ⟨b, 3, none⟩ = false ∧ w.frozen? ⟨b, 4, none⟩ = false ∧ w.frozen? ⟨b, 5, none⟩ = false ∧ w.frozen? ⟨b, 6, none⟩ = false ∧ w.frozen? ⟨b, 7, none⟩ = false ∧ w.frozen? ⟨b, 8, none⟩ = false ∧ w.frozen? ⟨b, 9, none⟩ = false := ⟨h.free 0, h.free 1, h.free 2, h.free 3, h.free 4, h.free 5, h.free 6, h.free 7, h.free 8, h.free 9⟩
def sgL (s : Sg) : List Value := [.int .i64 s.1.1, .int .i64 s.1.2.1, .int .i64 s.1.2.2, .int .i64 s.2.1, .int .i64 s.2.2.1, .int .i64 s.2.2.2.1, .int .i64 s.2.2.2.2]
def sgV (s : Sg) : Value := .agg #[.int .i64 s.1.1, .int .i64 s.1.2.1, .int .i64 s.1.2.2, .int .i64 s.2.1, .int .i64 s.2.2.1, .int .i64 s.2.2.2.1, .int .i64 s.2.2.2.2]
def li (w : World) (b o : Nat) (s : Sg) : Prop := w.cell? ⟨b, o, none⟩ = some (.int .i64 s.1.1) ∧ w.cell? ⟨b, o + 1, none⟩ = some (.int .i64 s.1.2.1) ∧ w.cell? ⟨b, o + 2, none⟩ = some (.int .i64 s.1.2.2) ∧ w.cell? ⟨b, o + 3, none⟩ = some (.int .i64 s.2.1) ∧ w.cell? ⟨b, o + 4, none⟩ = some (.int .i64 s.2.2.1) ∧ w.cell? ⟨b, o + 5, none⟩ = some (.int .i64 s.2.2.2.1) ∧ w.cell? ⟨b, o + 6, none⟩ = some (.int .i64 s.2.2.2.2)
theorem li.lt {w : World} {b o : Nat} {s : Sg} (h : li w b o s) : b < w.heap.size := World.block_lt_of_cell? w _ h.1
theorem li.kept {w w' : World} {b o : Nat} {s : Sg} (h : li w b o s) (hB : Below w.heap.size w w') : li w' b o s := by
 have hb := h.lt
 obtain ⟨h0, h1, h2, h3, h4, h5, h6⟩ := h
 exact ⟨by rw [hB.cell (p := ⟨b, o, none⟩) hb]; exact h0, by rw [hB.cell (p := ⟨b, o + 1, none⟩) hb]; exact h1, by rw [hB.cell (p := ⟨b, o + 2, none⟩) hb]; exact h2, by rw [hB.cell (p := ⟨b, o + 3, none⟩) hb]; exact h3, by rw [hB.cell (p := ⟨b, o + 4, none⟩) hb]; exact h4, by rw [hB.cell (p := ⟨b, o + 5, none⟩) hb]; exact h5, by rw [hB.cell (p := ⟨b, o + 6, none⟩) hb]; exact h6⟩
theorem eo (w : World) (s : Sg) (t : TypeId) : li (w.alloc (.cells #[.int .i64 s.1.1, .int .i64 s.1.2.1, .int .i64 s.1.2.2, .int .i64 s.2.1, .int .i64 s.2.2.1, .int .i64 s.2.2.2.1, .int .i64 s.2.2.2.2] t)) w.heap.size 0 s := by
 refine ⟨?_, ?_, ?_, ?_, ?_, ?_, ?_⟩ <;> simp
def dQ (w : World) (a : Option Addr) (A : List Sg) (n : Nat) : Prop := n = 0 ∨ ∃ b o, a = some ⟨b, o, none⟩ ∧ b < w.heap.size ∧ ∀ i, i < n → li w b (o + i * 7) (sgA A i)
theorem dQ.kept {w w' : World} {a : Option Addr} {A : List Sg} {n : Nat} (h : dQ w a A n) (hB : Below w.heap.size w w') : dQ w' a A n := by
 rcases h with h | ⟨b, o, ha, hb, hc⟩
 ·exact .inl h
 ·exact .inr ⟨b, o, ha, Nat.lt_of_lt_of_le hb hB.size, fun i hi => (hc i hi).kept hB⟩
theorem dQ.less {w : World} {a : Option Addr} {A : List Sg} {n m : Nat} (h : dQ w a A n) (hm : m ≤ n) : dQ w a A m := by
 rcases h with h | ⟨b, o, ha, hb, hc⟩
 ·exact .inl (by omega)
 ·exact .inr ⟨b, o, ha, hb, fun i hi => hc i (by omega)⟩
theorem pM (s t : Sg) (w : World) :
  Calls Tryz.prog 130 #[sgV s, sgV t] w fun e w' => e = .returned (.bool (gB s t)) ∧ Below w.heap.size w w' := by
 obtain ⟨⟨a1, a2, a3⟩, a4, a5, a6, a7⟩ := s
 obtain ⟨⟨b1, b2, b3⟩, b4, b5, b6, b7⟩ := t
 unfold sgV gB
 simp only
 have HB := yz (aM w (.cells #[.int .i64 a1, .int .i64 a2, .int .i64 a3, .int .i64 a4, .int .i64 a5, .int .i64 a6, .int .i64 a7] 166) (.cells #[.int .i64 b1, .int .i64 b2, .int .i64 b3, .int .i64 b4, .int .i64 b5, .int .i64 b6, .int .i64 b7] 166))
 go_enter Tryz.func130, Tryz.ntmps130
 go_wp2_with fail
 refine (qA b1 b2 b3 a1 a2 a3 b5 b6 b7 a5 a6 a7 _).mono ?_
 rintro e w1 ⟨rfl, hx⟩
 have HB1 := yz (aj (yy HB) hx)
 clear hx
 go_wp2_with fail
 go_ret
 exact ⟨rfl, yy HB1⟩
theorem oC (s f g : Sg) (w : World) :
  Calls Tryz.prog 131 #[sgV s, sgV f, sgV g] w fun e w' => e = .returned (.bool (cj s f g)) ∧ Below w.heap.size w w' := by
 have A0 := ((eo w s 166).kept (an _ (.cells #[.int .i64 f.1.1, .int .i64 f.1.2.1, .int .i64 f.1.2.2, .int .i64 f.2.1, .int .i64 f.2.2.1, .int .i64 f.2.2.2.1, .int .i64 f.2.2.2.2] 166))).kept (an _ (.cells #[.int .i64 g.1.1, .int .i64 g.1.2.1, .int .i64 g.1.2.2, .int .i64 g.2.1, .int .i64 g.2.2.1, .int .i64 g.2.2.2.1, .int .i64 g.2.2.2.2] 166))
 have F0 := (eo (w.alloc (.cells #[.int .i64 s.1.1, .int .i64 s.1.2.1, .int .i64 s.1.2.2, .int .i64 s.2.1, .int .i64 s.2.2.1, .int .i64 s.2.2.2.1, .int .i64 s.2.2.2.2] 166)) f 166).kept (an _ (.cells #[.int .i64 g.1.1, .int .i64 g.1.2.1, .int .i64 g.1.2.2, .int .i64 g.2.1, .int .i64 g.2.2.1, .int .i64 g.2.2.2.1, .int .i64 g.2.2.2.2] 166))
 have G0 := eo ((w.alloc (.cells #[.int .i64 s.1.1, .int .i64 s.1.2.1, .int .i64 s.1.2.2, .int .i64 s.2.1, .int .i64 s.2.2.1, .int .i64 s.2.2.2.1, .int .i64 s.2.2.2.2] 166)).alloc (.cells #[.int .i64 f.1.1, .int .i64 f.1.2.1, .int .i64 f.1.2.2, .int .i64 f.2.1, .int .i64 f.2.2.1, .int .i64 f.2.2.2.1, .int .i64 f.2.2.2.2] 166)) g 166
 have B0 := dp w (.cells #[.int .i64 s.1.1, .int .i64 s.1.2.1, .int .i64 s.1.2.2, .int .i64 s.2.1, .int .i64 s.2.2.1, .int .i64 s.2.2.2.1, .int .i64 s.2.2.2.2] 166) (.cells #[.int .i64 f.1.1, .int .i64 f.1.2.1, .int .i64 f.1.2.2, .int .i64 f.2.1, .int .i64 f.2.2.1, .int .i64 f.2.2.2.1, .int .i64 f.2.2.2.2] 166) (.cells #[.int .i64 g.1.1, .int .i64 g.1.2.1, .int .i64 g.1.2.2, .int .i64 g.2.1, .int .i64 g.2.2.1, .int .i64 g.2.2.2.1, .int .i64 g.2.2.2.2] 166)
 have e1 : (w.alloc (.cells #[.int .i64 s.1.1, .int .i64 s.1.2.1, .int .i64 s.1.2.2, .int .i64 s.2.1, .int .i64 s.2.2.1, .int .i64 s.2.2.2.1, .int .i64 s.2.2.2.2] 166)).heap.size = w.heap.size + 1 := by simp
 have e2 : ((w.alloc (.cells #[.int .i64 s.1.1, .int .i64 s.1.2.1, .int .i64 s.1.2.2, .int .i64 s.2.1, .int .i64 s.2.2.1, .int .i64 s.2.2.2.1, .int .i64 s.2.2.2.2] 166)).alloc (.cells #[.int .i64 f.1.1, .int .i64 f.1.2.1, .int .i64 f.1.2.2, .int .i64 f.2.1, .int .i64 f.2.2.1, .int .i64 f.2.2.2.1, .int .i64 f.2.2.2.2] 166)).heap.size = w.heap.size + 1 + 1 := by simp
 rw [e1] at F0
 rw [e2] at G0
 clear e1 e2
 obtain ⟨⟨a1, a2, a3⟩, a4, a5, a6, a7⟩ := s
 obtain ⟨⟨b1, b2, b3⟩, b4, b5, b6, b7⟩ := f
 obtain ⟨⟨c1, c2, c3⟩, c4, c5, c6, c7⟩ := g
 unfold sgV cj mH
 simp only at A0 F0 G0 B0 ⊢
 have cD := yz (fun W => ru b1 b2 b3 c1 c2 c3 a1 a2 a3 W)
 have cE := yz (fun W => ru b5 b6 b7 c5 c6 c7 a5 a6 a7 W)
 generalize mI b1 b2 b3 c1 c2 c3 a1 a2 a3 = d1 at *
 generalize mI b5 b6 b7 c5 c6 c7 a5 a6 a7 = d2 at *
 have cO := yz (fun W => jZ d1 0 W)
 have cP := yz (fun W => jZ d2 0 W)
 generalize eS d1 0 = o1 at *
 generalize eS d2 0 = o2 at *
 go_enter Tryz.func131, Tryz.ntmps131
 go_wp2_with fail
 generalize ((w.alloc (.cells #[.int .i64 a1, .int .i64 a2, .int .i64 a3, .int .i64 a4, .int .i64 a5, .int .i64 a6, .int .i64 a7] 166)).alloc (.cells #[.int .i64 b1, .int .i64 b2, .int .i64 b3, .int .i64 b4, .int .i64 b5, .int .i64 b6, .int .i64 b7] 166)).alloc (.cells #[.int .i64 c1, .int .i64 c2, .int .i64 c3, .int .i64 c4, .int .i64 c5, .int .i64 c6, .int .i64 c7] 166) = W0 at A0 F0 G0 B0 ⊢
 refine (yy cD _).mono ?_
 rintro e w1 ⟨rfl, hx⟩
 have A1 := A0.kept hx
 have F1 := F0.kept hx
 have G1 := G0.kept hx
 have B1 := aj B0 hx
 clear hx A0 F0 G0 B0
 go_wp2_with fail
 refine (yy cO _).mono ?_
 rintro e w2 ⟨rfl, rfl⟩
 obtain ⟨x0, x1, x2, x3, x4, x5, x6⟩ := A1
 obtain ⟨y0, y1, y2, y3, y4, y5, y6⟩ := F1
 obtain ⟨z0, z1, z2, z3, z4, z5, z6⟩ := G1
 simp only [Nat.zero_add] at x0 x1 x2 x3 x4 x5 x6 y0 y1 y2 y3 y4 y5 y6 z0 z1 z2 z3 z4 z5 z6
 go_wp2_with fail
 refine (yy cE _).mono ?_
 rintro e w3 ⟨rfl, hx⟩
 have B2 := aj B1 hx
 clear hx x0 x1 x2 x3 x4 x5 x6 y0 y1 y2 y3 y4 y5 y6 z0 z1 z2 z3 z4 z5 z6 B1
 go_wp2_with fail
 refine (yy cP _).mono ?_
 rintro e w4 ⟨rfl, rfl⟩
 go_wp2_with fail
 go_ret
 exact ⟨by first | rfl | simp [go_sem], B2⟩
theorem gJ (A : List Sg) (n : Nat) (s : Sg) (a : Option Addr) (c : Nat) (w : World) (hn : n ≤ 1048576) (hcap : n ≤ c) (hc9 : c ≤ 9223372036854775807) (hS : dQ w a A n) :
  Calls Tryz.prog 124 #[sgV s, .slice a n c] w fun e w' => e = .returned (.bool (dw A s n)) ∧ Below w.heap.size w w' := by
 have cF : Hid (∀ (t : Sg) (W : World), Calls Tryz.prog 130 #[sgV s, sgV t] W fun e w' => e = .returned (.bool (gB s t)) ∧ Below W.heap.size W w') := yz (fun t W => pM s t W)
 have cS : Hid (∀ (f g : Sg) (W : World), Calls Tryz.prog 131 #[sgV s, sgV f, sgV g] W fun e w' => e = .returned (.bool (cj s f g)) ∧ Below W.heap.size W w') := yz (fun f g W => oC s f g W)
 have V0 := yz (eo w s 166)
 have B0 := yz (an w (.cells #[.int .i64 s.1.1, .int .i64 s.1.2.1, .int .i64 s.1.2.2, .int .i64 s.2.1, .int .i64 s.2.2.1, .int .i64 s.2.2.2.1, .int .i64 s.2.2.2.2] 166))
 obtain ⟨⟨a1, a2, a3⟩, a4, a5, a6, a7⟩ := s
 simp only at V0 B0
 have cF' : Hid (∀ (t : Sg) (W : World), Calls Tryz.prog 130 #[.agg #[.int .i64 a1, .int .i64 a2, .int .i64 a3, .int .i64 a4, .int .i64 a5, .int .i64 a6, .int .i64 a7], sgV t] W fun e w' => e = .returned (.bool (gB ((a1, a2, a3), a4, a5, a6, a7) t)) ∧ Below W.heap.size W w') := cF
 have cS' : Hid (∀ (f g : Sg) (W : World), Calls Tryz.prog 131 #[.agg #[.int .i64 a1, .int .i64 a2, .int .i64 a3, .int .i64 a4, .int .i64 a5, .int .i64 a6, .int .i64 a7], sgV f, sgV g] W fun e w' => e = .returned (.bool (cj ((a1, a2, a3), a4, a5, a6, a7) f g)) ∧ Below W.heap.size W w') := cS
 clear cF cS
 show Calls Tryz.prog 124 #[.agg #[.int .i64 a1, .int .i64 a2, .int .i64 a3, .int .i64 a4, .int .i64 a5, .int .i64 a6, .int .i64 a7], .slice a n c] w _
 rcases hS with rfl | ⟨b, o, rfl, hb, hc⟩
 ·go_enter Tryz.func124, Tryz.ntmps124
  go_wp2_with fail
  refine wp_loop_rounds 1 ?_
  rw [rounds_succ]
  go_wp2_with fail
  go_ret
  exact ⟨rfl, yy B0⟩
 have HC := yz hc
 clear hc
 obtain ⟨sg, hsg⟩ : ∃ sg : Sg, sg = ((a1, a2, a3), a4, a5, a6, a7) := ⟨_, rfl⟩
 rw [← hsg] at cF' cS' V0
 rw [← hsg]
 have HSG := yz hsg
 clear hsg
 go_enter Tryz.func124, Tryz.ntmps124
 go_wp2_with fail
 go_loopw [11] (fun i wr => ∃ k : Nat, k ≤ n ∧ i = .int .i64 k ∧ Hid (∀ j, j < k → dJ A sg j = true) ∧ Hid (Below w.heap.size w wr) ∧ Hid (li wr w.heap.size 0 sg)) (fun i _ => n - (intOf i).toNat)
 case atStart => exact ⟨0, by omega, rfl, yz (fun j hj => absurd hj (Nat.not_lt_zero _)), B0, V0⟩
 case round =>
  clear B0 V0
  obtain ⟨k, hk, rfl, HF, HB, HV⟩ := hrel
  by_cases hkn : k < n
  ·have hkn2 : (k : Int) < (n : Int) := by omega
   obtain ⟨t, ht⟩ : ∃ t, sgA A k = t := ⟨_, rfl⟩
   have hst := ((yy HC) k hkn).kept (yy HB)
   rw [ht] at hst
   have HT := yz ht
   clear ht
   have cFt := yz (yy cF' t)
   have cSt := yz (fun f W => yy cS' f t W)
   have HFA : Hid (∀ b, gB sg t = b → gB sg (sgA A k) = b) := yz (fun b h => by rw [yy HT]; exact h)
   have HID : Hid (sg.2.1 = a4) := yz (by rw [yy HSG])
   have HTI : Hid ((sgA A k).2.1 = t.2.1) := yz (by rw [yy HT])
   have Z := an wr (.cells #[.int .i64 t.1.1, .int .i64 t.1.2.1, .int .i64 t.1.2.2, .int .i64 t.2.1, .int .i64 t.2.2.1, .int .i64 t.2.2.2.1, .int .i64 t.2.2.2.2] 166)
   have T1 := yz (eo wr t 166)
   have HB1 := yz (aj (yy HB) Z)
   have HV1 := yz ((yy HV).kept Z)
   clear Z HB HV
   obtain ⟨⟨b1, b2, b3⟩, b4, b5, b6, b7⟩ := t
   have cFt' : Hid (∀ (W : World), Calls Tryz.prog 130 #[.agg #[.int .i64 a1, .int .i64 a2, .int .i64 a3, .int .i64 a4, .int .i64 a5, .int .i64 a6, .int .i64 a7], .agg #[.int .i64 b1, .int .i64 b2, .int .i64 b3, .int .i64 b4, .int .i64 b5, .int .i64 b6, .int .i64 b7]] W fun e w' => e = .returned (.bool (gB sg ((b1, b2, b3), b4, b5, b6, b7))) ∧ Below W.heap.size W w') := cFt
   have cSt' : Hid (∀ (f : Sg) (W : World), Calls Tryz.prog 131 #[.agg #[.int .i64 a1, .int .i64 a2, .int .i64 a3, .int .i64 a4, .int .i64 a5, .int .i64 a6, .int .i64 a7], sgV f, .agg #[.int .i64 b1, .int .i64 b2, .int .i64 b3, .int .i64 b4, .int .i64 b5, .int .i64 b6, .int .i64 b7]] W fun e w' => e = .returned (.bool (cj sg f ((b1, b2, b3), b4, b5, b6, b7))) ∧ Below W.heap.size W w') := cSt
   clear cFt cSt
   have HTI' : Hid ((sgA A k).2.1 = b4) := HTI
   clear HTI
   obtain ⟨c0, c1, c2, c3, c4, c5, c6⟩ := hst
   simp only at c0 c1 c2 c3 c4 c5 c6 T1 HB1 HV1
   obtain ⟨tg, htg⟩ : ∃ sg : Sg, sg = ((b1, b2, b3), b4, b5, b6, b7) := ⟨_, rfl⟩
   rw [← htg] at cFt' cSt' T1 HFA HT
   have HTG := yz htg
   clear htg
   obtain ⟨v0, v1, v2, v3, v4, v5, v6⟩ := yy HV1
   obtain ⟨x0, x1, x2, x3, x4, x5, x6⟩ := yy T1
   rw [yy HSG] at v0 v1 v2 v3 v4 v5 v6
   rw [yy HTG] at x0 x1 x2 x3 x4 x5 x6
   simp only [Nat.zero_add] at v0 v1 v2 v3 v4 v5 v6 x0 x1 x2 x3 x4 x5 x6
   by_cases hid : a4 = b4
   ·subst hid
    have HNO := yz (ov (A := A) (s := sg) hkn (sO (by rw [yy HID, yy HTI'])))
    go_wp2_with fail
    go_ret
    exact ⟨by rw [yy HNO]; rfl, yy HB1⟩
   have hid' : (a4 == b4) = false := by simp [hid]
   go_wp2_with fail
   clear c0 c1 c2 c3 c4 c5 c6 v0 v1 v2 v3 v4 v5 v6 x0 x1 x2 x3 x4 x5 x6
   generalize wr.alloc (.cells #[.int .i64 b1, .int .i64 b2, .int .i64 b3, .int .i64 b4, .int .i64 b5, .int .i64 b6, .int .i64 b7] 166) = W1 at T1 HB1 HV1 ⊢
   generalize wr.heap.size = tb at *
   refine (yy cFt' _).mono ?_
   rintro e W2 ⟨rfl, hx⟩
   have T2 := yz ((yy T1).kept hx)
   have HB2 := yz (aj (yy HB1) hx)
   have HV2 := yz ((yy HV1).kept hx)
   clear hx T1 HB1 HV1
   cases hfar : gB sg tg
   ·have HNO := yz (ov (A := A) (s := sg) hkn (qO (yy HFA _ hfar)))
    go_wp2_with fail
    go_ret
    exact ⟨by rw [yy HNO]; rfl, yy HB2⟩
   have HFT := yz (yy HFA _ hfar)
   have hkc : (k : Int) ≤ (c : Int) := by omega
   clear hfar HFA cFt'
   go_wp2_with fail
   go_loopw [33] (fun i wr => ∃ j : Nat, j ≤ k ∧ i = .int .i64 j ∧ Hid (∀ l, l < j → cj sg (sgA A l) tg = true) ∧ Hid (Below w.heap.size w wr) ∧ Hid (li wr w.heap.size 0 sg) ∧ Hid (li wr tb 0 tg)) (fun i _ => k - (intOf i).toNat)
   case atStart => exact ⟨0, by omega, rfl, yz (fun j hj => absurd hj (Nat.not_lt_zero _)), HB2, HV2, T2⟩
   case round =>
    clear HB2 HV2 T2
    obtain ⟨j, hj, rfl, HL, HB, HV, HT2⟩ := hrel
    by_cases hjk : j < k
    ·have hjk2 : (j : Int) < (k : Int) := by omega
     obtain ⟨f, hf⟩ : ∃ t, sgA A j = t := ⟨_, rfl⟩
     have hst := ((yy HC) j (by omega)).kept (yy HB)
     rw [hf] at hst
     have HFE := yz hf
     clear hf
     have cSf := yz (yy cSt' f)
     have Z := an wr (.cells #[.int .i64 f.1.1, .int .i64 f.1.2.1, .int .i64 f.1.2.2, .int .i64 f.2.1, .int .i64 f.2.2.1, .int .i64 f.2.2.2.1, .int .i64 f.2.2.2.2] 166)
     have F1 := eo wr f 166
     have HB1 := yz (aj (yy HB) Z)
     have HV1 := yz ((yy HV).kept Z)
     have HT3 := yz ((yy HT2).kept Z)
     clear Z HB HV HT2
     have HSB : Hid (cj sg (sgA A j) tg = cj sg f tg) := yz (by rw [yy HFE])
     have HSC : Hid (cj sg (sgA A j) (sgA A k) = cj sg f tg) := yz (by rw [yy HFE, yy HT])
     have cSg : Hid (∀ (W : World), Calls Tryz.prog 131 #[.agg #[.int .i64 a1, .int .i64 a2, .int .i64 a3, .int .i64 a4, .int .i64 a5, .int .i64 a6, .int .i64 a7], sgV f, .agg #[.int .i64 b1, .int .i64 b2, .int .i64 b3, .int .i64 b4, .int .i64 b5, .int .i64 b6, .int .i64 b7]] W fun e w' => e = .returned (.bool (cj sg f tg)) ∧ Below W.heap.size W w') := cSf
     clear cSf
     generalize cj sg f tg = sb at *
     obtain ⟨⟨f1, f2, f3⟩, f4, f5, f6, f7⟩ := f
     have cSh : Hid (∀ (W : World), Calls Tryz.prog 131 #[.agg #[.int .i64 a1, .int .i64 a2, .int .i64 a3, .int .i64 a4, .int .i64 a5, .int .i64 a6, .int .i64 a7], .agg #[.int .i64 f1, .int .i64 f2, .int .i64 f3, .int .i64 f4, .int .i64 f5, .int .i64 f6, .int .i64 f7], .agg #[.int .i64 b1, .int .i64 b2, .int .i64 b3, .int .i64 b4, .int .i64 b5, .int .i64 b6, .int .i64 b7]] W fun e w' => e = .returned (.bool sb) ∧ Below W.heap.size W w') := cSg
     clear cSg
     obtain ⟨c0, c1, c2, c3, c4, c5, c6⟩ := hst
     simp only at c0 c1 c2 c3 c4 c5 c6 F1 HB1 HV1 HT3
     obtain ⟨v0, v1, v2, v3, v4, v5, v6⟩ := yy HV1
     obtain ⟨x0, x1, x2, x3, x4, x5, x6⟩ := yy HT3
     obtain ⟨y0, y1, y2, y3, y4, y5, y6⟩ := F1
     rw [yy HSG] at v0 v1 v2 v3 v4 v5 v6
     rw [yy HTG] at x0 x1 x2 x3 x4 x5 x6
     simp only [Nat.zero_add] at v0 v1 v2 v3 v4 v5 v6 x0 x1 x2 x3 x4 x5 x6 y0 y1 y2 y3 y4 y5 y6
     go_wp2_with fail
     clear c0 c1 c2 c3 c4 c5 c6 v0 v1 v2 v3 v4 v5 v6 x0 x1 x2 x3 x4 x5 x6 y0 y1 y2 y3 y4 y5 y6
     refine (yy cSh _).mono ?_
     rintro e W4 ⟨rfl, hx⟩
     have HB4 := yz (aj (yy HB1) hx)
     have HV4 := yz ((yy HV1).kept hx)
     have HT4 := yz ((yy HT3).kept hx)
     clear hx HB1 HV1 HT3
     cases sb
     ·have HNO := yz (ov (A := A) (s := sg) hkn (pZ hjk (yy HSC)))
      go_wp2_with fail
      go_ret
      exact ⟨by rw [yy HNO]; rfl, yy HB4⟩
     ·go_wp2_with fail
      go_roundw
      case rel => exact ⟨j + 1, by omega, by go_num, yz (fun l hl => by
       by_cases e : l = j
       ·rw [e]; exact yy HSB
       ·exact yy HL l (by omega)), HB4, HV4, HT4⟩
      case measure => simp [intOf]; omega
    ·have hjk' : j = k := by omega
     subst hjk'
     have HOK : Hid (dJ A sg j = true) := yz (qP (by rw [yy HID, yy HTI']; exact hid) (yy HFT) (fun l hl => by rw [yy HT]; exact yy HL l hl))
     go_wp2_with fail
     go_roundw
     case rel => exact ⟨j + 1, by omega, by go_num, yz (fun l hl => by
      by_cases e : l = j
      ·rw [e]; exact yy HOK
      ·exact yy HF l (by omega)), HB, HV⟩
     case measure => simp [intOf]; omega
  ·have hkn' : k = n := by omega
   subst hkn'
   have HY := yz (tw (A := A) (s := sg) (yy HF))
   go_wp2_with fail
   go_ret
   exact ⟨by rw [yy HY]; rfl, yy HB⟩
def ro (w : World) (b o : Nat) (v : D3) : Prop := w.cell? ⟨b, o, none⟩ = some (.int .i64 v.1) ∧ w.cell? ⟨b, o + 1, none⟩ = some (.int .i64 v.2.1) ∧ w.cell? ⟨b, o + 2, none⟩ = some (.int .i64 v.2.2)
def co (w : World) (a : Option Addr) (L : List D3) (n : Nat) : Prop := n = 0 ∨ ∃ b o, a = some ⟨b, o, none⟩ ∧ b < w.heap.size ∧ ∀ i, i < n → ro w b (o + i * 3) (vA L i)
theorem ro.kept {w w' : World} {b o : Nat} {s : D3} (h : ro w b o s) (hb : b < w.heap.size) (hB : Below w.heap.size w w') : ro w' b o s := by
 obtain ⟨h0, h1, h2⟩ := h
 exact ⟨by rw [hB.cell (p := ⟨b, o, none⟩) hb]; exact h0, by rw [hB.cell (p := ⟨b, o + 1, none⟩) hb]; exact h1, by rw [hB.cell (p := ⟨b, o + 2, none⟩) hb]; exact h2⟩
theorem co.kept {w w' : World} {a : Option Addr} {L : List D3} {n : Nat} (h : co w a L n) (hB : Below w.heap.size w w') : co w' a L n := by
 rcases h with h | ⟨b, o, ha, hb, hc⟩
 ·exact .inl h
 ·exact .inr ⟨b, o, ha, Nat.lt_of_lt_of_le hb hB.size, fun i hi => (hc i hi).kept hb hB⟩
theorem co.less {w : World} {a : Option Addr} {L : List D3} {n m : Nat} (h : co w a L n) (hm : m ≤ n) : co w a L m := by
 rcases h with h | ⟨b, o, ha, hb, hc⟩
 ·exact .inl (by omega)
 ·exact .inr ⟨b, o, ha, hb, fun i hi => hc i (by omega)⟩
theorem jN {w : World} {b : Nat} {x y z : Int} (h : aF w b x y z) : b < w.heap.size := World.block_lt_of_cell? w _ h.1
theorem pL (L : List D3) (n : Nat) (x y z : Int) (a : Option Addr) (c : Nat) (w : World) (hn : n ≤ 1048576) (hS : co w a L n) :
  Calls Tryz.prog 63 #[.agg #[.int .i64 x, .int .i64 y, .int .i64 z], .slice a n c] w fun e w' => e = .returned (.bool (gd L (x, y, z) n)) ∧ Below w.heap.size w w' := by
 rcases hS with rfl | ⟨b, o, rfl, hb, hc⟩
 ·go_enter Tryz.func63, Tryz.ntmps63
  go_wp2_with fail
  refine wp_loop_rounds 1 ?_
  rw [rounds_succ]
  go_wp2_with fail
  go_ret
  exact ⟨rfl, an _ _⟩
 ·have HC := yz hc
  clear hc
  have V0 := yz (aE w x y z 78)
  have B0 := yz (an w (.cells #[.int .i64 x, .int .i64 y, .int .i64 z] 78))
  go_enter Tryz.func63, Tryz.ntmps63
  go_wp2_with fail
  go_loopw [9] (fun i wr => ∃ k : Nat, k ≤ n ∧ i = .int .i64 k ∧ Hid (ji L (x, y, z) k) ∧ Hid (Below w.heap.size w wr) ∧ Hid (aF wr w.heap.size x y z)) (fun i _ => n - (intOf i).toNat)
  case atStart => exact ⟨0, by omega, rfl, yz (fun j hj => absurd hj (Nat.not_lt_zero _)), B0, V0⟩
  case round =>
   obtain ⟨k, hk, rfl, HF, HB, HV⟩ := hrel
   by_cases hkn : k < n
   ·obtain ⟨⟨s2, s3, s4⟩, hs⟩ : ∃ s, vA L k = s := ⟨_, rfl⟩
    have hst := ((yy HC) k hkn).kept hb (yy HB)
    rw [hs] at hst
    obtain ⟨c0, c1, c2⟩ := hst
    have HS := yz hs
    clear hs
    have V1 := yz (aF.alloc (yy HV) (jN (yy HV)) (.cells #[.int .i64 s2, .int .i64 s3, .int .i64 s4] 78))
    have B1 := yz ((yy HB).alloc (yy HB).size (.cells #[.int .i64 s2, .int .i64 s3, .int .i64 s4] 78))
    obtain ⟨v0, v1, v2⟩ := yy V1
    go_wp2_with fail
    refine (fE x y z s2 s3 s4 _).mono ?_
    rintro e w2 ⟨rfl, hx⟩
    have HV2 := yz ((yy V1).kept (jN (yy V1)) hx)
    have HB2 := yz (aj (yy B1) hx)
    clear hx c0 c1 c2 v0 v1 v2 V1 B1 HB HV
    have HR : Hid (bg (x, y, z) (vA L k) = cJ x y z s2 s3 s4) := yz (by rw [yy HS]; rfl)
    cases hq : cJ x y z s2 s3 s4
    ·rw [hq] at HR
     go_wp2_with fail
     go_roundw
     case rel => exact ⟨k + 1, by omega, by go_num, yz (ll (yy HF) (yy HR)), HB2, HV2⟩
     case measure => simp [intOf]; omega
    ·rw [hq] at HR
     go_wp2_with fail
     go_ret
     exact ⟨by rw [ng hkn (yy HR)]; rfl, yy HB2⟩
   ·have hkn' : k = n := by omega
    subst hkn'
    go_wp2_with fail
    go_ret
    exact ⟨by rw [pl (yy HF)]; rfl, yy HB⟩
theorem eu (L : List D3) (a : Option Addr) (c : Nat) (w : World) (hn : L.length ≤ 1048576) (hcap : L.length ≤ c) (hc9 : c ≤ 9223372036854775807) (hS : co w a L L.length) :
  Calls Tryz.prog 28 #[.slice a L.length c] w fun e w' => e = .returned (.bool (aN L)) ∧ Below w.heap.size w w' := by
 obtain ⟨n, hnl⟩ : ∃ n, L.length = n := ⟨_, rfl⟩
 rw [hnl] at hn hcap hS ⊢
 have HL := yz hnl
 clear hnl
 by_cases h12 : 6 < n
 ·have h12' : (6 : Int) < (n : Int) := by omega
  have HO : Hid (aN L = false) := yz (mt (by rw [yy HL]; exact h12))
  clear hS
  go_enter Tryz.func28, Tryz.ntmps28
  go_wp2
  go_ret
  exact ⟨by rw [yy HO]; rfl, Below.refl _ _⟩
 have h12' : ¬ (6 : Int) < (n : Int) := by omega
 rcases hS with rfl | ⟨b, o, rfl, hb, hc⟩
 ·have HO : Hid (aN L = true) := yz (ix (by rw [yy HL]; omega) (by rw [yy HL]; intro j hj; omega))
  go_enter Tryz.func28, Tryz.ntmps28
  go_wp2_with fail
  refine wp_loop_rounds 1 ?_
  rw [rounds_succ]
  go_wp2_with fail
  go_ret
  exact ⟨by rw [yy HO]; rfl, Below.refl _ _⟩
 have HC := yz hc
 have HS : Hid (co w (some ⟨b, o, none⟩) L n) := yz (.inr ⟨b, o, rfl, hb, hc⟩)
 clear hc
 go_enter Tryz.func28, Tryz.ntmps28
 go_wp2_with fail
 go_loopw [10] (fun i wr => ∃ k : Nat, k ≤ n ∧ i = .int .i64 k ∧ Hid (nH L k) ∧ Hid (Below w.heap.size w wr)) (fun i _ => n - (intOf i).toNat)
 case atStart => exact ⟨0, by omega, rfl, yz (fun j hj => absurd hj (Nat.not_lt_zero _)), yz (Below.refl _ _)⟩
 case round =>
  obtain ⟨k, hk, rfl, HF, HB⟩ := hrel
  by_cases hkn : k < n
  ·obtain ⟨⟨s2, s3, s4⟩, hs⟩ : ∃ s, vA L k = s := ⟨_, rfl⟩
   have hst := ((yy HC) k hkn).kept hb (yy HB)
   rw [hs] at hst
   obtain ⟨c0, c1, c2⟩ := hst
   have HT := yz hs
   clear hs
   have B1 := yz ((yy HB).alloc (yy HB).size (.cells #[.int .i64 s2, .int .i64 s3, .int .i64 s4] 78))
   have N1 := yz (aE wr s2 s3 s4 78)
   go_wp2_with fail
   clear c0 c1 c2
   have hb1 := yy B1
   have hn1 := yy N1
   generalize hwe : wr.alloc (.cells #[.int .i64 s2, .int .i64 s3, .int .i64 s4] 78) = W1 at hb1 hn1 ⊢
   have HB1 := yz hb1
   clear hwe hb1 B1 N1
   obtain ⟨c0, c1, c2⟩ := hn1
   have r0 := cell_regrown c0
   have r1 := cell_regrown c1
   have r2 := cell_regrown c2
   clear c0 c1 c2
   have HO : Hid (okV L k = (bO s2 s3 s4 && !gd L (s2, s3, s4) k)) := yz (by unfold okV fX; rw [yy HT])
   have cW := yz (fun W => gj s2 s3 s4 W)
   have cA := yz (fun (W : World) (hW : co W (some ⟨b, o, none⟩) L k) => pL L k s2 s3 s4 (some ⟨b, o, none⟩) c W (by omega) hW)
   have HSk := yz (((yy HS).less (Nat.le_of_lt hkn)).kept (yy HB1))
   have hkc : (k : Int) ≤ (c : Int) := by omega
   cases hwd : bO s2 s3 s4
   ·rw [hwd] at HO cW
    have HO' : Hid (okV L k = false) := HO
    refine wp_region_quiet_below (by kernel_rfl) (by kernel_rfl) ?_
    repeat (go_big_quiet_step (first | (with_reducible exact Calls.regrown_of (yy cW _))))
    refine wpQuiet_nil ?_
    intro _ hw'
    obtain ⟨⟨dq, osq⟩, hw''⟩ := hw'
    subst hw''
    have hx := aj (yy HB1) (below_regrown W1 dq osq)
    generalize grow (redrawn W1 dq) osq = W2 at hx ⊢
    go_wp2_with fail
    go_ret
    exact ⟨by rw [jJ (by rw [yy HL]; exact hkn) (yy HO')]; rfl, hx⟩
   ·rw [hwd, Bool.true_and] at HO
    rw [hwd] at cW
    generalize gd L (s2, s3, s4) k = am at *
    refine wp_region_quiet_below (by kernel_rfl) (by kernel_rfl) ?_
    repeat (go_big_quiet_step (first | (with_reducible exact Calls.regrown_of (yy cW _)) | (with_reducible exact Calls.regrown_of (yy cA _ ((yy HSk).kept (below_regrown _ _ _))))))
    refine wpQuiet_nil ?_
    intro _ hw'
    obtain ⟨⟨dq, osq⟩, hw''⟩ := hw'
    subst hw''
    have hx := aj (yy HB1) (below_regrown W1 dq osq)
    generalize grow (redrawn W1 dq) osq = W2 at hx ⊢
    have HB2 := yz hx
    clear hx HB1 HB cW cA HSk r0 r1 r2
    cases am
    ·have HO' : Hid (okV L k = true) := HO
     go_wp2_with fail
     go_roundw
     case rel => exact ⟨k + 1, by omega, by go_num, yz (pY (yy HF) (yy HO')), HB2⟩
     case measure => simp [intOf]; omega
    ·have HO' : Hid (okV L k = false) := HO
     go_wp2_with fail
     go_ret
     exact ⟨by rw [jJ (by rw [yy HL]; exact hkn) (yy HO')]; rfl, yy HB2⟩
  ·have hkn' : k = n := by omega
   have HO : Hid (aN L = true) := yz (ix (by rw [yy HL]; omega) (by rw [yy HL, ← hkn']; exact yy HF))
   go_wp2_with fail
   go_ret
   exact ⟨by rw [yy HO]; rfl, yy HB⟩
theorem mT {a1 a2 a3 b1 b2 b3 : Int} (ha : ay a1 a2 a3 = true) (hb : ay b1 b2 b3 = true) :
  (eqB (crW a2 a3 b2 b3) (crW a3 a1 b3 b1) (crW a1 a2 b1 b2) 0 0 0 && decide (0 < bt a1 a2 a3 b1 b2 b3)) = cJ a1 a2 a3 b1 b2 b3 := by
 unfold cJ
 rw [ha, hb]
 rfl
theorem mO (p q : D3) (w : World) (hp : ay p.1 p.2.1 p.2.2 = true) (hq : ay q.1 q.2.1 q.2.2 = true) :
  Calls Tryz.prog 71 #[.agg #[.int .i64 p.1, .int .i64 p.2.1, .int .i64 p.2.2], .agg #[.int .i64 q.1, .int .i64 q.2.1, .int .i64 q.2.2]] w fun e w' => e = .returned (.bool (bg p q)) ∧ Below w.heap.size w w' := by
 refine (gO _ _ _ _ _ _ w).mono fun e w' h => ?_
 rw [mT hp hq] at h
 exact h
theorem fm (L : List D3) (a : Option Addr) (c : Nat) (w : World) (hn : L.length ≤ 1048576) (hS : co w a L L.length) :
  Calls Tryz.prog 38 #[.slice a L.length c] w fun e w' => e = .returned (.bool (aN L)) ∧ Below w.heap.size w w' := by
 obtain ⟨n, hnl⟩ : ∃ n, L.length = n := ⟨_, rfl⟩
 rw [hnl] at hn hS ⊢
 have HL := yz hnl
 clear hnl
 by_cases h12 : 6 < n
 ·have h12' : (6 : Int) < (n : Int) := by omega
  have HO : Hid (aN L = false) := yz (mt (by rw [yy HL]; exact h12))
  clear hS
  go_enter Tryz.func38, Tryz.ntmps38
  go_wp2
  go_ret
  exact ⟨by rw [yy HO]; rfl, Below.refl _ _⟩
 have h12' : ¬ (6 : Int) < (n : Int) := by omega
 rcases hS with rfl | ⟨b, o, rfl, hb, hc⟩
 ·have HO : Hid (aN L = true) := yz (ix (by rw [yy HL]; omega) (by rw [yy HL]; intro j hj; omega))
  go_enter Tryz.func38, Tryz.ntmps38
  go_wp2_with fail
  refine wp_loop_rounds 1 ?_
  rw [rounds_succ]
  go_wp2_with fail
  go_ret
  exact ⟨by rw [yy HO]; rfl, Below.refl _ _⟩
 have HC := yz hc
 clear hc
 go_enter Tryz.func38, Tryz.ntmps38
 go_wp2_with fail
 go_loopw [3] (fun i wr => ∃ k : Nat, k ≤ n ∧ i = .int .i64 k ∧ Hid (nH L k) ∧ Hid (Below w.heap.size w wr)) (fun i _ => n - (intOf i).toNat)
 case atStart => exact ⟨0, by omega, rfl, yz (fun j hj => absurd hj (Nat.not_lt_zero _)), yz (Below.refl _ _)⟩
 case round =>
  obtain ⟨k, hk, rfl, HF, HB⟩ := hrel
  by_cases hkn : k < n
  ·have hkn2 : (k : Int) < (n : Int) := by omega
   obtain ⟨⟨s2, s3, s4⟩, hs⟩ : ∃ s, vA L k = s := ⟨_, rfl⟩
   have hst := ((yy HC) k hkn).kept hb (yy HB)
   rw [hs] at hst
   obtain ⟨c0, c1, c2⟩ := hst
   have HT := yz hs
   clear hs
   have HO : Hid (okV L k = (bO s2 s3 s4 && !gd L (s2, s3, s4) k)) := yz (by unfold okV fX; rw [yy HT])
   go_wp2_with fail
   refine (pO s2 s3 s4 _).mono ?_
   rintro e W2 ⟨rfl, hx⟩
   have HB2 := yz (aj (yy HB) hx)
   clear hx c0 c1 c2 HB
   cases hwd : bO s2 s3 s4
   ·rw [hwd] at HO
    have HO' : Hid (okV L k = false) := HO
    go_wp2_with fail
    go_ret
    exact ⟨by rw [jJ (by rw [yy HL]; exact hkn) (yy HO')]; rfl, yy HB2⟩
   rw [hwd, Bool.true_and] at HO
   have HWD := yz hwd
   clear hwd
   go_wp2_with fail
   go_loopw [4] (fun i wr => ∃ j : Nat, j ≤ k ∧ i = .int .i64 j ∧ Hid (ji L (s2, s3, s4) j) ∧ Hid (Below w.heap.size w wr)) (fun i _ => k - (intOf i).toNat)
   case atStart => exact ⟨0, by omega, rfl, yz (fun j hj => absurd hj (Nat.not_lt_zero _)), HB2⟩
   case round =>
    clear HB2
    obtain ⟨j, hj, rfl, HN, HB3⟩ := hrel
    by_cases hjk : j < k
    ·have hjk2 : (j : Int) < (k : Int) := by omega
     have hjn2 : (j : Int) < (n : Int) := by omega
     have HWJ := yz (jy (yy HF j hjk))
     obtain ⟨⟨t2, t3, t4⟩, ht⟩ : ∃ s, vA L j = s := ⟨_, rfl⟩
     have hst := ((yy HC) k hkn).kept hb (yy HB3)
     have htt := ((yy HC) j (by omega)).kept hb (yy HB3)
     rw [yy HT] at hst
     rw [ht] at htt HWJ
     obtain ⟨c0, c1, c2⟩ := hst
     obtain ⟨d0, d1, d2⟩ := htt
     have HTJ := yz ht
     clear ht
     have cS : Hid (∀ W : World, Calls Tryz.prog 71 #[.agg #[.int .i64 t2, .int .i64 t3, .int .i64 t4], .agg #[.int .i64 s2, .int .i64 s3, .int .i64 s4]] W fun e w' => e = .returned (.bool (bg (s2, s3, s4) (t2, t3, t4))) ∧ Below W.heap.size W w') := yz (fun W => by
      rw [oT (p := (s2, s3, s4)) (q := (t2, t3, t4)) (yy HWD) (yy HWJ)]
      exact mO (t2, t3, t4) (s2, s3, s4) W (eN (yy HWJ)).1 (eN (yy HWD)).1)
     have HSM : Hid (bg (s2, s3, s4) (vA L j) = bg (s2, s3, s4) (t2, t3, t4)) := yz (by rw [yy HTJ])
     generalize bg (s2, s3, s4) (t2, t3, t4) = sm at *
     have r0 := cell_regrown c0
     have r1 := cell_regrown c1
     have r2 := cell_regrown c2
     have q0 := cell_regrown d0
     have q1 := cell_regrown d1
     have q2 := cell_regrown d2
     clear c0 c1 c2 d0 d1 d2
     go_wp2_with fail
     refine wp_region_quiet_below (by kernel_rfl) (by kernel_rfl) ?_
     repeat (go_big_quiet_step (first | (with_reducible exact Calls.regrown_of (yy cS _))))
     refine wpQuiet_nil ?_
     intro _ hw'
     obtain ⟨⟨dq, osq⟩, hw''⟩ := hw'
     subst hw''
     have hx := aj (yy HB3) (below_regrown wr dq osq)
     generalize grow (redrawn wr dq) osq = W4 at hx ⊢
     have HB4 := yz hx
     clear hx HB3 cS r0 r1 r2 q0 q1 q2
     cases sm
     ·go_wp2_with fail
      go_roundw
      case rel => exact ⟨j + 1, by omega, by go_num, yz (ll (yy HN) (yy HSM)), HB4⟩
      case measure => simp [intOf]; omega
     ·have HO' : Hid (okV L k = false) := yz (by rw [yy HO, ng hjk (yy HSM)]; rfl)
      go_wp2_with fail
      go_ret
      exact ⟨by rw [jJ (by rw [yy HL]; exact hkn) (yy HO')]; rfl, yy HB4⟩
    ·have hjk' : j = k := by omega
     subst hjk'
     have HO' : Hid (okV L j = true) := yz (by rw [yy HO, pl (yy HN)]; rfl)
     go_wp2_with fail
     go_roundw
     case rel => exact ⟨j + 1, by omega, by go_num, yz (pY (yy HF) (yy HO')), HB3⟩
     case measure => simp [intOf]; omega
  ·have hkn' : k = n := by omega
   have HO : Hid (aN L = true) := yz (ix (by rw [yy HL]; omega) (by rw [yy HL, ← hkn']; exact yy HF))
   go_wp2_with fail
   go_ret
   exact ⟨by rw [yy HO]; rfl, yy HB⟩
def nX (w : World) (b n : Nat) (L : List D3) (k : Nat) : Prop := ∃ cur : Array Value, w.heap[b]? = some (.cells cur 78 (0, 0)) ∧ cur.size = n * 3 ∧
 ∀ j, j < k → cur[j * 3]? = some (.int .i64 (vA L j).1) ∧ cur[j * 3 + 1]? = some (.int .i64 (vA L j).2.1) ∧ cur[j * 3 + 2]? = some (.int .i64 (vA L j).2.2)
theorem nX.lt {w : World} {b n k : Nat} {L : List D3} (h : nX w b n L k) : b < w.heap.size := by
 obtain ⟨cur, hc, _⟩ := h
 exact (Array.getElem?_eq_some_iff.1 hc).1
theorem nX.kept {w w' : World} {b n k : Nat} {L : List D3} (h : nX w b n L k) (hB : Below w.heap.size w w') : nX w' b n L k := by
 have hl := h.lt
 obtain ⟨cur, hc, r⟩ := h
 exact ⟨cur, by rw [hB.block b hl]; exact hc, r⟩
theorem nX.dirs {w : World} {b n k : Nat} {L : List D3} (h : nX w b n L k) : co w (some ⟨b, 0, none⟩) L k := by
 have hl := h.lt
 obtain ⟨cur, hc, _, hs⟩ := h
 refine .inr ⟨b, 0, rfl, hl, fun i hi => ?_⟩
 obtain ⟨h0, h1, h2⟩ := hs i hi
 rw [Nat.zero_add]
 exact ⟨by rw [cell_of_row w b _ cur _ _ hc]; exact h0, by rw [cell_of_row w b _ cur _ _ hc]; exact h1, by rw [cell_of_row w b _ cur _ _ hc]; exact h2⟩
theorem nX.free {w : World} {b n k : Nat} {L : List D3} (h : nX w b n L k) (i : Nat) : w.frozen? ⟨b, i, none⟩ = false := by
 obtain ⟨cur, hc, _⟩ := h
 exact frozen_of_row w b i cur _ hc
end
section
open Go.RowKit
def dv (w : World) (t : TypeId) (g m : Nat) (f : Nat → Value) : Prop := ∃ cur : Array Value, w.heap[g]? = some (.cells cur t (0, 0)) ∧ ∀ j, j < m → cur[j]? = some (f j)
theorem dv.lt {w : World} {t : TypeId} {g m : Nat} {f : Nat → Value} (h : dv w t g m f) : g < w.heap.size := by
 obtain ⟨cur, hc, _⟩ := h
 exact (Array.getElem?_eq_some_iff.1 hc).1
theorem dv.same {w w' : World} {t : TypeId} {g m : Nat} {f : Nat → Value} (h : dv w t g m f) (e : w'.heap[g]? = w.heap[g]?) : dv w' t g m f := by
 obtain ⟨cur, hc, hs⟩ := h
 exact ⟨cur, by rw [e]; exact hc, hs⟩
theorem dv.kept {w w' : World} {t : TypeId} {g m : Nat} {f : Nat → Value} (h : dv w t g m f) (hB : Below w.heap.size w w') : dv w' t g m f := h.same (hB.block g h.lt)
theorem dv.congr {w : World} {t : TypeId} {g m : Nat} {f f' : Nat → Value} (h : dv w t g m f) (e : ∀ j, j < m → f j = f' j) : dv w t g m f' := by
 obtain ⟨cur, hc, hs⟩ := h
 exact ⟨cur, hc, fun j hj => by rw [hs j hj, e j hj]⟩
theorem dv.cell {w : World} {t : TypeId} {g m j : Nat} {f : Nat → Value} (h : dv w t g m f) (hj : j < m) : w.cell? ⟨g, j, none⟩ = some (f j) := by
 obtain ⟨cur, hc, hs⟩ := h
 rw [cell_of_row w g j cur t _ hc]
 exact hs j hj
theorem dv.free {w : World} {t : TypeId} {g m : Nat} {f : Nat → Value} (h : dv w t g m f) (j : Nat) : w.frozen? ⟨g, j, none⟩ = false := by
 obtain ⟨cur, hc, _⟩ := h
 exact frozen_of_row w g j cur t hc
theorem dv.set {w : World} {t : TypeId} {g m : Nat} {f : Nat → Value} (h : dv w t g m f) (i : Nat) (v : Value) : dv (w.setCell ⟨g, i, none⟩ v) t g m (fun j => if j = i then v else f j) := by
 obtain ⟨cur, hc, hs⟩ := h
 refine ⟨_, heap_setCell_same w g i cur t v hc, fun j hj => ?_⟩
 have := hs j hj
 rw [Array.getElem?_setIfInBounds]
 by_cases e : i = j
 ·subst e
  simp [(Array.getElem?_eq_some_iff.1 this).1]
 ·have e' : ¬ j = i := fun h => e (Eq.symm h)
  simp [e, e', this]
structure lh (lo hi : Nat) (w w' : World) : Prop where
 os : w'.os = w.os
 tape : w'.tape = w.tape
 output : w'.output = w.output
 size : w.heap.size ≤ w'.heap.size
 block : ∀ k, k < w.heap.size → (k < lo ∨ hi ≤ k) → w'.heap[k]? = w.heap[k]?
theorem lh.refl (lo hi : Nat) (w : World) : lh lo hi w w := ⟨rfl, rfl, rfl, Nat.le_refl _, fun _ _ _ => rfl⟩
theorem lh.of {lo hi g : Nat} {w w' : World} (h : w.grownBy w' (some g)) (h1 : lo ≤ g) (h2 : g < hi) : lh lo hi w w' := ⟨h.os, h.tape, h.output, h.size, fun k hk hne => h.block k hk (fun e => by have := Option.some.inj e; omega)⟩
theorem lh.below {B lo hi : Nat} {w w1 w2 : World} (h : Below B w w1) (ha : lh lo hi w1 w2) (h1 : B ≤ lo) (h2 : B ≤ w1.heap.size) : Below B w w2 :=
 h.trans ⟨ha.os, ha.tape, ha.output, ha.size, fun k hk => ha.block k (by omega) (.inl (by omega))⟩
def fK (w : World) (t : TypeId) (c lo hi n : Nat) (v : Value) (f : Nat → Value) : Prop := (n = 0 ∧ ∃ a cap, v = .slice a 0 cap) ∨ ∃ g cap, v = .slice (some ⟨g, 0, none⟩) n cap ∧ lo ≤ g ∧ g < hi ∧ dv w t g (n * c) f
theorem fK.kept {w w' : World} {t : TypeId} {c lo hi n : Nat} {v : Value} {f : Nat → Value} (h : fK w t c lo hi n v f) (hB : Below w.heap.size w w') : fK w' t c lo hi n v f := by
 rcases h with h | ⟨g, cap, hv, h1, h2, hr⟩
 ·exact .inl h
 ·exact .inr ⟨g, cap, hv, h1, h2, hr.kept hB⟩
theorem fK.apart {w w' : World} {t : TypeId} {c lo hi l h n : Nat} {v : Value} {f : Nat → Value} (hp : fK w t c lo hi n v f) (ha : lh l h w w') (hd : hi ≤ l ∨ h ≤ lo) : fK w' t c lo hi n v f := by
 rcases hp with hp | ⟨g, cap, hv, h1, h2, hr⟩
 ·exact .inl hp
 ·exact .inr ⟨g, cap, hv, h1, h2, hr.same (ha.block g hr.lt (by omega))⟩
theorem fK.wide {w : World} {t : TypeId} {c lo hi lo' hi' n : Nat} {v : Value} {f : Nat → Value} (h : fK w t c lo hi n v f) (h1 : lo' ≤ lo) (h2 : hi ≤ hi') : fK w t c lo' hi' n v f := by
 rcases h with h | ⟨g, cap, hv, g1, g2, hr⟩
 ·exact .inl h
 ·exact .inr ⟨g, cap, hv, by omega, by omega, hr⟩
theorem fK.of {w : World} {t : TypeId} {c B n : Nat} {v : Value} {xs : List Value} {f : Nat → Value} (h : w.ownsRow B t c v n xs) (hf : ∀ j, j < n * c → xs[j]? = some (f j)) : fK w t c B w.heap.size n v f := by
 rcases h.2 with ⟨h1, h0⟩ | ⟨g, cap, cur, hv, hb, hg, hnc, hcm, hcs, htake⟩
 ·exact .inl ⟨h0, _, _, h1⟩
 ·refine .inr ⟨g, cap, hv, hb, (Array.getElem?_eq_some_iff.1 hg).1, cur, hg, fun j hj => ?_⟩
  have e := hf j hj
  rw [← htake, List.getElem?_take, if_pos hj] at e
  simpa using e
end
section
open Go.RowKit Go.Sort
def nS (fI : Nat → Int) (fB : Nat → Bool) (j : Nat) : Value := .int .i64 (fI j)
end
section
open Go.RowKit Go.Deep Go.ChangeShapes
end
section
open Go.RowKit Go.Sort
abbrev V3 := Int × Int × Int
def qs (w : World) (b : Nat) (x y : Int) : Prop := w.cell? ⟨b, 0, none⟩ = some (.int .i64 x) ∧ w.cell? ⟨b, 1, none⟩ = some (.int .i64 y)
theorem qs.kept {w w' : World} {b : Nat} {x y : Int} (h : qs w b x y) (hB : Below w.heap.size w w') : qs w' b x y := by
 have hb := World.block_lt_of_cell? w _ h.1
 exact ⟨by rw [hB.cell (p := ⟨b, 0, none⟩) hb]; exact h.1, by rw [hB.cell (p := ⟨b, 1, none⟩) hb]; exact h.2⟩
abbrev P2 := Int × Int
abbrev Sp := P2 × V3 × V3
def qt (w : World) (b : Nat) (x y a1 a2 a3 b1 b2 b3 : Int) : Prop := w.cell? ⟨b, 0, none⟩ = some (.int .i64 x) ∧ w.cell? ⟨b, 1, none⟩ = some (.int .i64 y) ∧ w.cell? ⟨b, 2, none⟩ = some (.int .i64 a1) ∧ w.cell? ⟨b, 3, none⟩ = some (.int .i64 a2) ∧ w.cell? ⟨b, 4, none⟩ = some (.int .i64 a3) ∧ w.cell? ⟨b, 5, none⟩ = some (.int .i64 b1) ∧ w.cell? ⟨b, 6, none⟩ = some (.int .i64 b2) ∧ w.cell? ⟨b, 7, none⟩ = some (.int .i64 b3)
theorem qt.kept {w w' : World} {b : Nat} {x y a1 a2 a3 b1 b2 b3 : Int} (h : qt w b x y a1 a2 a3 b1 b2 b3) (hB : Below w.heap.size w w') : qt w' b x y a1 a2 a3 b1 b2 b3 := by
 have hb := World.block_lt_of_cell? w _ h.1
 obtain ⟨h0, h1, h2, h3, h4, h5, h6, h7⟩ := h
 exact ⟨by rw [hB.cell (p := ⟨b, 0, none⟩) hb]; exact h0, by rw [hB.cell (p := ⟨b, 1, none⟩) hb]; exact h1, by rw [hB.cell (p := ⟨b, 2, none⟩) hb]; exact h2, by rw [hB.cell (p := ⟨b, 3, none⟩) hb]; exact h3, by rw [hB.cell (p := ⟨b, 4, none⟩) hb]; exact h4, by rw [hB.cell (p := ⟨b, 5, none⟩) hb]; exact h5, by rw [hB.cell (p := ⟨b, 6, none⟩) hb]; exact h6, by rw [hB.cell (p := ⟨b, 7, none⟩) hb]; exact h7⟩
def ti (w : World) (b o : Nat) (s : Sp) : Prop := w.cell? ⟨b, o, none⟩ = some (.int .i64 s.1.1) ∧ w.cell? ⟨b, o + 1, none⟩ = some (.int .i64 s.1.2) ∧ w.cell? ⟨b, o + 2, none⟩ = some (.int .i64 s.2.1.1) ∧ w.cell? ⟨b, o + 3, none⟩ = some (.int .i64 s.2.1.2.1) ∧ w.cell? ⟨b, o + 4, none⟩ = some (.int .i64 s.2.1.2.2) ∧ w.cell? ⟨b, o + 5, none⟩ = some (.int .i64 s.2.2.1) ∧ w.cell? ⟨b, o + 6, none⟩ = some (.int .i64 s.2.2.2.1) ∧ w.cell? ⟨b, o + 7, none⟩ = some (.int .i64 s.2.2.2.2)
theorem ti.kept {w w' : World} {b o : Nat} {s : Sp} (h : ti w b o s) (hB : Below w.heap.size w w') : ti w' b o s := by
 have hb : b < w.heap.size := World.block_lt_of_cell? w _ h.1
 obtain ⟨h0, h1, h2, h3, h4, h5, h6, h7⟩ := h
 exact ⟨by rw [hB.cell (p := ⟨b, o, none⟩) hb]; exact h0, by rw [hB.cell (p := ⟨b, o + 1, none⟩) hb]; exact h1, by rw [hB.cell (p := ⟨b, o + 2, none⟩) hb]; exact h2, by rw [hB.cell (p := ⟨b, o + 3, none⟩) hb]; exact h3, by rw [hB.cell (p := ⟨b, o + 4, none⟩) hb]; exact h4, by rw [hB.cell (p := ⟨b, o + 5, none⟩) hb]; exact h5, by rw [hB.cell (p := ⟨b, o + 6, none⟩) hb]; exact h6, by rw [hB.cell (p := ⟨b, o + 7, none⟩) hb]; exact h7⟩
theorem vM {L : List St} {i : Nat} (h : dN L i = true) (hi : 0 < i) : (stA L (i - 1)).1 < (stA L i).1 := by
 unfold dN upB at h
 simp only [Bool.and_eq_true, Bool.or_eq_true, decide_eq_true_eq] at h
 omega
theorem pI {L : List St} (h : aT L = true) : ∀ i, i < L.length → ∀ j, j < i → (stA L j).1 < (stA L i).1
 | 0, _, j, hj => absurd hj (Nat.not_lt_zero _)
 | i + 1, hi, j, hj => by
  have hu := vM ((cx h).2 (i + 1) hi) (by omega)
  rw [Nat.add_sub_cancel] at hu
  by_cases e : j = i
  ·subst e; exact hu
  ·have := pI h i (by omega) j (by omega)
   omega
theorem qw {L : List St} (h : aT L = true) {i : Nat} (hi : i < L.length) : atV L L.length (stA L i).1 = (stA L i).2 :=
 qv hi (fun j hj e => by have := pI h i hi j hj; omega) rfl
end
end Go.Proofs.YtgiodlllokdcdaaGreatDoor
