/- Several texts in one: IeP, NaA, IdC, ListI, L7A, NaB, NaC, NaD, NaE, IdW, L7B, IeA, IeB, IeC. -/
import Derived.OwnWalk
import Derived.Laws.OwnMore
import Derived.Lib.QuietBelow
import Derived.Deep.QuietTactic
import Derived.BigQuiet
import Derived.Deep.RegionHeld
import Derived.WalkMore
import Derived.Test.YtofpjlhoppofdaaGreatDoorRows
import Derived.Deep.Slices
import Derived.Deep.Strs
import Derived.LaidHandle
import Derived.LaidMore
import Derived.ProofKit
import Derived.WideShapes
import Derived.Test.YtofpjlhoppofdaaGreatDoorQDeskFaultOwn6
import Derived.Test.YtofpjlhoppofdaaGreatDoorQDeskFaultOwn2
import Derived.Test.YtofpjlhoppofdaaGreatDoorQDeskFaultOwn5
import Derived.Test.YtofpjlhoppofdaaGreatDoorQDeskFaultOwn1
import Derived.Test.YtofpjlhoppofdaaGreatDoorQDeskFaultOwn4
namespace Go.Proofs.YtofpjlhoppofdaaGreatDoor
set_option linter.unusedVariables false
theorem stepSe_many (s : SeN) (l : List Int) : (stepSe s l).many ≤ s.many + 1 := by
  unfold stepSe
  split
  · show 1 ≤ s.many + 1; omega
  · split
    · exact Nat.le_refl _
    · omega
theorem foldSe_many : ∀ (L : List (List Int)) (s : SeN), (L.foldl stepSe s).many ≤ s.many + L.length
  | [], s => Nat.le_refl _
  | l :: L, s => by
    rw [List.foldl_cons, List.length_cons]
    have h1 := foldSe_many L (stepSe s l)
    have h2 := stepSe_many s l
    omega
theorem flat_len {α β : Type} (f : α → List β) (c : Nat) (hf : ∀ a, (f a).length ≤ c) : ∀ L : List α, (L.flatMap f).length ≤ L.length * c
  | [] => by simp
  | a :: L => by
    rw [List.flatMap_cons, List.length_append, List.length_cons, Nat.succ_mul]
    have := hf a
    have := flat_len f c hf L
    omega
theorem allN_len (F : List Int → Int → Bool) (A : List Int) (hA : A.length ≤ 12) : ∀ (r : Nat) (ids : List Int), (allN F A r ids).length ≤ 13 ^ r
  | 0, ids => by simp [allN]
  | r + 1, ids => by
    unfold allN
    rw [List.length_append]
    have h1 := flat_len (fun a => allN F A r (ids ++ [a])) (13 ^ r) (fun a => allN_len F A hA r _) (A.filter (F ids))
    have h2 := allN_len F A hA r (ids ++ [0])
    have h3 : (A.filter (F ids)).length ≤ 12 := Nat.le_trans (List.length_filter_le _ _) hA
    have h4 : (A.filter (F ids)).length * 13 ^ r ≤ 12 * 13 ^ r := Nat.mul_le_mul_right _ h3
    rw [Nat.pow_succ]
    omega
theorem fromN_many (F : List Int → Int → Bool) (A : List Int) (hA : A.length ≤ 12) (r : Nat) (ids : List Int) (s : SeN) : (fromN F A r ids s).many ≤ s.many + 13 ^ r := by
  rw [fromN_eq]
  have h1 := foldSe_many (allN F A r ids) s
  have h2 := allN_len F A hA r ids
  omega
def loopN (F : List Int → Int → Bool) (A : List Int) (r : Nat) (ids : List Int) (s : SeN) (i : Nat) : SeN := (A.take i).foldl (fun s a => if F ids a = true then fromN F A r (ids ++ [a]) s else s) s
theorem loopN_zero (F : List Int → Int → Bool) (A : List Int) (r : Nat) (ids : List Int) (s : SeN) : loopN F A r ids s 0 = s := rfl
theorem loopN_succ (F : List Int → Int → Bool) (A : List Int) (r : Nat) (ids : List Int) (s : SeN) {i : Nat} (hi : i < A.length) : loopN F A r ids s (i + 1) = if F ids (A.getD i 0) = true then fromN F A r (ids ++ [A.getD i 0]) (loopN F A r ids s i) else loopN F A r ids s i := by
  unfold loopN
  rw [List.take_succ_eq_append_getElem hi, List.foldl_append]
  have e : A.getD i 0 = A[i] := by rw [List.getD_eq_getElem?_getD, List.getElem?_eq_getElem hi]; rfl
  rw [e]
  rfl
theorem loopN_many (F : List Int → Int → Bool) (A : List Int) (hA : A.length ≤ 12) (r : Nat) (ids : List Int) (s : SeN) : ∀ i, i ≤ A.length → (loopN F A r ids s i).many ≤ s.many + i * 13 ^ r
  | 0, _ => by rw [loopN_zero]; omega
  | i + 1, h => by
    rw [loopN_succ F A r ids s (by omega), Nat.succ_mul]
    have h1 := loopN_many F A hA r ids s i (by omega)
    split
    · have h2 := fromN_many F A hA r (ids ++ [A.getD i 0]) (loopN F A r ids s i)
      generalize 13 ^ r = p at *
      omega
    · generalize 13 ^ r = p at *
      omega
theorem fromN_prune {F : List Int → Int → Bool} {A : List Int} {r : Nat} {ids : List Int} {s : SeN} (h : cntN ids + r < s.count) : fromN F A r ids s = s := by
  cases r with
  | zero => unfold fromN; rw [if_pos h]
  | succ r => unfold fromN; rw [if_pos h]
theorem fromN_leaf {F : List Int → Int → Bool} {A : List Int} {ids : List Int} {s : SeN} (h : ¬ cntN ids + 0 < s.count) : fromN F A 0 ids s = stepSe s ids := by unfold fromN; rw [if_neg h]
theorem fromN_node {F : List Int → Int → Bool} {A : List Int} {r : Nat} {ids : List Int} {s : SeN} (h : ¬ cntN ids + (r + 1) < s.count) : fromN F A (r + 1) ids s = fromN F A r (ids ++ [0]) (loopN F A r ids s A.length) := by
  rw [fromN, if_neg h]
  unfold loopN
  rw [List.take_length]
theorem cntN_le (ids : List Int) : cntN ids ≤ ids.length := List.countP_le_length
theorem stepSe_count (s : SeN) (l : List Int) : (stepSe s l).count ≤ max s.count (cntN l) := by
  unfold stepSe
  split
  · show cntN l ≤ _; omega
  · split
    · show s.count ≤ _; omega
    · omega
end Go.Proofs.YtofpjlhoppofdaaGreatDoor
namespace Go.Proofs.YtofpjlhoppofdaaGreatDoor
open Go.RowKit Go.Sort
set_option linter.unusedVariables false
def SgAt (w : World) (b o : Nat) (s : Sg) : Prop := w.cell? ⟨b, o, none⟩ = some (.int .i64 s.1.1) ∧ w.cell? ⟨b, o + 1, none⟩ = some (.int .i64 s.1.2.1) ∧ w.cell? ⟨b, o + 2, none⟩ = some (.int .i64 s.1.2.2) ∧ w.cell? ⟨b, o + 3, none⟩ = some (.int .i64 s.2.1) ∧ w.cell? ⟨b, o + 4, none⟩ = some (.int .i64 s.2.2.1) ∧ w.cell? ⟨b, o + 5, none⟩ = some (.int .i64 s.2.2.2.1) ∧ w.cell? ⟨b, o + 6, none⟩ = some (.int .i64 s.2.2.2.2)
theorem SgAt.lt {w : World} {b o : Nat} {s : Sg} (h : SgAt w b o s) : b < w.heap.size := World.block_lt_of_cell? w _ h.1
theorem SgAt.kept {w w' : World} {b o : Nat} {s : Sg} (h : SgAt w b o s) (hB : Below w.heap.size w w') : SgAt w' b o s := by
  have hb := h.lt
  obtain ⟨h0, h1, h2, h3, h4, h5, h6⟩ := h
  exact ⟨by rw [hB.cell (p := ⟨b, o, none⟩) hb]; exact h0, by rw [hB.cell (p := ⟨b, o + 1, none⟩) hb]; exact h1, by rw [hB.cell (p := ⟨b, o + 2, none⟩) hb]; exact h2, by rw [hB.cell (p := ⟨b, o + 3, none⟩) hb]; exact h3, by rw [hB.cell (p := ⟨b, o + 4, none⟩) hb]; exact h4, by rw [hB.cell (p := ⟨b, o + 5, none⟩) hb]; exact h5, by rw [hB.cell (p := ⟨b, o + 6, none⟩) hb]; exact h6⟩
def Sights (w : World) (a : Option Addr) (A : List Sg) (n : Nat) : Prop := n = 0 ∨ ∃ b o, a = some ⟨b, o, none⟩ ∧ b < w.heap.size ∧ ∀ i, i < n → SgAt w b (o + i * 7) (sgA A i)
theorem Sights.kept {w w' : World} {a : Option Addr} {A : List Sg} {n : Nat} (h : Sights w a A n) (hB : Below w.heap.size w w') : Sights w' a A n := by
  rcases h with h | ⟨b, o, ha, hb, hc⟩
  · exact .inl h
  · exact .inr ⟨b, o, ha, Nat.lt_of_lt_of_le hb hB.size, fun i hi => (hc i hi).kept hB⟩
theorem Sights.less {w : World} {a : Option Addr} {A : List Sg} {n m : Nat} (h : Sights w a A n) (hm : m ≤ n) : Sights w a A m := by
  rcases h with h | ⟨b, o, ha, hb, hc⟩
  · exact .inl (by omega)
  · exact .inr ⟨b, o, ha, hb, fun i hi => hc i (by omega)⟩
def OwnD (w : World) (b n : Nat) (L : List D3) (k : Nat) : Prop := ∃ cur : Array Value, w.heap[b]? = some (.cells cur 76 (0, 0)) ∧ cur.size = n * 3 ∧
  ∀ j, j < k → cur[j * 3]? = some (.int .i64 (vA L j).1) ∧ cur[j * 3 + 1]? = some (.int .i64 (vA L j).2.1) ∧ cur[j * 3 + 2]? = some (.int .i64 (vA L j).2.2)
theorem OwnD.lt {w : World} {b n k : Nat} {L : List D3} (h : OwnD w b n L k) : b < w.heap.size := by
  obtain ⟨cur, hc, _⟩ := h
  exact (Array.getElem?_eq_some_iff.1 hc).1
theorem OwnD.kept {w w' : World} {b n k : Nat} {L : List D3} (h : OwnD w b n L k) (hB : Below w.heap.size w w') : OwnD w' b n L k := by
  have hl := h.lt
  obtain ⟨cur, hc, r⟩ := h
  exact ⟨cur, by rw [hB.block b hl]; exact hc, r⟩
theorem OwnD.dirs {w : World} {b n k : Nat} {L : List D3} (h : OwnD w b n L k) : Dirs w (some ⟨b, 0, none⟩) L k := by
  have hl := h.lt
  obtain ⟨cur, hc, _, hs⟩ := h
  refine .inr ⟨b, 0, rfl, hl, fun i hi => ?_⟩
  obtain ⟨h0, h1, h2⟩ := hs i hi
  rw [Nat.zero_add]
  exact ⟨by rw [cell_of_row w b _ cur _ _ hc]; exact h0, by rw [cell_of_row w b _ cur _ _ hc]; exact h1, by rw [cell_of_row w b _ cur _ _ hc]; exact h2⟩
theorem OwnD.free {w : World} {b n k : Nat} {L : List D3} (h : OwnD w b n L k) (i : Nat) : w.frozen? ⟨b, i, none⟩ = false := by
  obtain ⟨cur, hc, _⟩ := h
  exact frozen_of_row w b i cur _ hc
def valInt64S (fI : Nat → Int) (fB : Nat → Bool) (j : Nat) : Value := .int .i64 (fI j)
def Nums (w : World) (a : Option Addr) (ids : List Int) (n : Nat) : Prop := n = 0 ∨ ∃ b o, a = some ⟨b, o, none⟩ ∧ b < w.heap.size ∧ ∀ i, i < n → w.cell? ⟨b, o + i, none⟩ = some (.int .i64 (ids.getD i 0))
theorem Nums.kept {w w' : World} {a : Option Addr} {L : List Int} {n : Nat} (h : Nums w a L n) (hB : Below w.heap.size w w') : Nums w' a L n := by
  rcases h with h | ⟨b, o, ha, hb, hc⟩
  · exact .inl h
  · exact .inr ⟨b, o, ha, Nat.lt_of_lt_of_le hb hB.size, fun i hi => by rw [hB.cell (p := ⟨b, o + i, none⟩) hb]; exact hc i hi⟩
def numV (ids : List Int) (j : Nat) : Value := .int .i64 (ids.getD j 0)
theorem nums_of {w : World} {g n : Nat} {ids : List Int} (h : RowV w 2 g (n * 1) (numV ids)) : Nums w (some ⟨g, 0, none⟩) ids n :=
  .inr ⟨g, 0, rfl, h.lt, fun i hi => by rw [Nat.zero_add]; exact h.cell (by omega)⟩
end Go.Proofs.YtofpjlhoppofdaaGreatDoor
namespace Go.Proofs.YtofpjlhoppofdaaGreatDoor
open Go.RowKit Go.Sort
set_option linter.unusedVariables false
set_option linter.unusedSimpArgs false
theorem cellKept {w w' : World} {a : Addr} {v : Value} (h : w.cell? a = some v) (hB : Below w.heap.size w w') : w'.cell? a = some v := (hB.cell (World.block_lt_of_cell? w a h)).trans h
end Go.Proofs.YtofpjlhoppofdaaGreatDoor
namespace Go.Proofs.YtofpjlhoppofdaaGreatDoor
open Go.RowKit Go.Sort
set_option linter.unusedVariables false
theorem det_right {p q r : D3} (hp : rightB p.1 p.2.1 p.2.2 = true) (hq : rightB q.1 q.2.1 q.2.2 = true) (hr : rightB r.1 r.2.1 r.2.2 = true) :
    detD p q r = dotW (crW p.2.1 p.2.2 q.2.1 q.2.2) (crW p.2.2 p.1 q.2.2 q.1) (crW p.1 p.2.1 q.1 q.2.1) r.1 r.2.1 r.2.2 := by
  unfold detD detI
  rw [hp, hq, hr]
  rfl
theorem det_calls (p q r : D3) (hp : rightB p.1 p.2.1 p.2.2 = true) (hq : rightB q.1 q.2.1 q.2.2 = true) (hr : rightB r.1 r.2.1 r.2.2 = true) : ∃ (x1 x2 x3 d : Int),
    Hid (∀ W : World, Calls Tryz.prog 107 #[.agg #[.int .i64 p.1, .int .i64 p.2.1, .int .i64 p.2.2], .agg #[.int .i64 q.1, .int .i64 q.2.1, .int .i64 q.2.2]] W fun e w' => e = .returned (.agg #[.int .i64 x1, .int .i64 x2, .int .i64 x3]) ∧ Below W.heap.size W w')
    ∧ Hid (∀ W : World, Calls Tryz.prog 108 #[.agg #[.int .i64 x1, .int .i64 x2, .int .i64 x3], .agg #[.int .i64 r.1, .int .i64 r.2.1, .int .i64 r.2.2]] W fun e w' => e = .returned (.int .i64 d) ∧ Below W.heap.size W w')
    ∧ Hid (∀ W : World, Calls Tryz.prog 175 #[.int .i64 d] W fun e w' => e = .returned (.int .i64 (ordI (detD p q r) 0)) ∧ Below W.heap.size W w') := by
  refine ⟨_, _, _, _, yz (fun W => l02Cross_any _ _ _ _ _ _ W), yz (fun W => l02Dot_any _ _ _ _ _ _ W), yz (fun W => (l02Sign_any _ W).mono fun e w' h => ?_)⟩
  obtain ⟨he, hw⟩ := h
  refine ⟨?_, by rw [hw]; exact Below.refl _ _⟩
  rw [he, det_right hp hq hr]
  rfl
theorem cos_call (p q r s : D3) (hp : wideD p = true) (hq : wideD q = true) (hr : smallB r.1 r.2.1 r.2.2 = true) (hs : smallB s.1 s.2.1 s.2.2 = true) (W : World) :
    Calls Tryz.prog 174 #[.agg #[.int .i64 p.1, .int .i64 p.2.1, .int .i64 p.2.2], .agg #[.int .i64 q.1, .int .i64 q.2.1, .int .i64 q.2.2], .agg #[.int .i64 r.1, .int .i64 r.2.1, .int .i64 r.2.2], .agg #[.int .i64 s.1, .int .i64 s.2.1, .int .i64 s.2.2]] W fun e w' => e = .returned (.int .i64 (cosI p.1 p.2.1 p.2.2 q.1 q.2.1 q.2.2 r.1 r.2.1 r.2.2 s.1 s.2.1 s.2.2)) ∧ Below W.heap.size W w' := by
  rw [cos_eq2 hp hq hr hs]
  exact l02Cos_any _ _ _ _ _ _ _ _ _ _ _ _ W
def stepI (L : List St) (S : List D3) (ids : List Int) (s : Sg) (i : Nat) : Bool := decide (ids.getD i 0 = 0) || (decide (s.2.1 ≠ ids.getD i 0) && farB s (sgOf L S ids i) && (List.range i).all (fun j => decide (ids.getD j 0 = 0) || sideB s (sgOf L S ids j) (sgOf L S ids i)))
theorem fitsI_yes {L : List St} {S : List D3} {ids : List Int} {s : Sg} {n : Nat} (h : ∀ i, i < n → stepI L S ids s i = true) : fitsI L S ids s n = true := by
  unfold fitsI
  rw [List.all_eq_true]
  exact fun i hi => h i (List.mem_range.1 hi)
theorem fitsI_no {L : List St} {S : List D3} {ids : List Int} {s : Sg} {n i : Nat} (hi : i < n) (h : stepI L S ids s i = false) : fitsI L S ids s n = false := by
  unfold fitsI
  rw [List.all_eq_false]
  exact ⟨i, List.mem_range.2 hi, by unfold stepI at h; rw [h]; simp⟩
theorem stepI_zero {L : List St} {S : List D3} {ids : List Int} {s : Sg} {i : Nat} (h : ids.getD i 0 = 0) : stepI L S ids s i = true := by unfold stepI; rw [decide_eq_true h, Bool.true_or]
theorem stepI_same {L : List St} {S : List D3} {ids : List Int} {s : Sg} {i : Nat} (h : ids.getD i 0 ≠ 0) (h1 : s.2.1 = ids.getD i 0) : stepI L S ids s i = false := by
  unfold stepI
  rw [decide_eq_false h, Bool.false_or, show decide (s.2.1 ≠ ids.getD i 0) = false from decide_eq_false (fun g => g h1)]
  rfl
theorem stepI_far {L : List St} {S : List D3} {ids : List Int} {s : Sg} {i : Nat} (h : ids.getD i 0 ≠ 0) (h1 : farB s (sgOf L S ids i) = false) : stepI L S ids s i = false := by
  unfold stepI
  rw [decide_eq_false h, Bool.false_or, h1, Bool.and_false]
  rfl
theorem stepI_side {L : List St} {S : List D3} {ids : List Int} {s : Sg} {i j : Nat} (h : ids.getD i 0 ≠ 0) (hj : j < i) (h0 : ids.getD j 0 ≠ 0) (h1 : sideB s (sgOf L S ids j) (sgOf L S ids i) = false) : stepI L S ids s i = false := by
  unfold stepI
  have : ((List.range i).all fun j => decide (ids.getD j 0 = 0) || sideB s (sgOf L S ids j) (sgOf L S ids i)) = false := by
    rw [List.all_eq_false]
    exact ⟨j, List.mem_range.2 hj, by rw [decide_eq_false h0, h1]; simp⟩
  rw [decide_eq_false h, Bool.false_or, this, Bool.and_false]
theorem stepI_yes {L : List St} {S : List D3} {ids : List Int} {s : Sg} {i : Nat} (h1 : s.2.1 ≠ ids.getD i 0) (h2 : farB s (sgOf L S ids i) = true) (h3 : ∀ j, j < i → (decide (ids.getD j 0 = 0) || sideB s (sgOf L S ids j) (sgOf L S ids i)) = true) : stepI L S ids s i = true := by
  unfold stepI
  rw [decide_eq_true h1, h2, show ((List.range i).all fun j => decide (ids.getD j 0 = 0) || sideB s (sgOf L S ids j) (sgOf L S ids i)) = true from List.all_eq_true.2 (fun j hj => h3 j (List.mem_range.1 hj))]
  simp
def sidesTo (L : List St) (S : List D3) (ids : List Int) (s : Sg) (i j : Nat) : Prop := ∀ l, l < j → (decide (ids.getD l 0 = 0) || sideB s (sgOf L S ids l) (sgOf L S ids i)) = true
theorem sides_step {L : List St} {S : List D3} {ids : List Int} {s : Sg} {i j : Nat} (h : sidesTo L S ids s i j) (h1 : (decide (ids.getD j 0 = 0) || sideB s (sgOf L S ids j) (sgOf L S ids i)) = true) : sidesTo L S ids s i (j + 1) := fun l hl => by
  by_cases e : l = j
  · rw [e]; exact h1
  · exact h l (by omega)
theorem sides_none (L : List St) (S : List D3) (ids : List Int) (s : Sg) (i : Nat) : sidesTo L S ids s i 0 := fun j hj => absurd hj (Nat.not_lt_zero _)
set_option maxHeartbeats 4000000 in
set_option maxRecDepth 100000 in
theorem l06Fits_any (L : List St) (S : List D3) (ids : List Int) (k : Nat) (id : Int) (ar br ir : Option Addr) (cr dr er : Nat) (w : World) (hk6 : k ≤ 6) (hn : L.length ≤ 12) (hS : Stars w ar L L.length) (hD : Dirs w br S (k + 1)) (hI : Nums w ir ids k)
    (hwd : ∀ i, i ≤ k → wideD (vA S i) = true) (hid : smallB (atV L L.length id).1 (atV L L.length id).2.1 (atV L L.length id).2.2 = true) (hids : ∀ i, i < k → ids.getD i 0 ≠ 0 → smallB (atV L L.length (ids.getD i 0)).1 (atV L L.length (ids.getD i 0)).2.1 (atV L L.length (ids.getD i 0)).2.2 = true) :
    Calls Tryz.prog 146 #[.slice ar L.length cr, .slice br (k + 1) dr, .slice ir k er, .int .i64 id] w fun e w' => e = .returned (.bool (fitsI L S ids (vA S k, (id, atV L L.length id)) k)) ∧ Below w.heap.size w w' := by
  have cA := yz (fun (W : World) (q : Int) hW => l04At_any L L.length q ar cr W (by omega) hW)
  have HS := yz hS
  have HD := yz hD
  have HWD := yz hwd
  have HDS := yz hids
  have HSO : Hid (∀ i, sgOf L S ids i = (vA S i, (ids.getD i 0, atV L L.length (ids.getD i 0)))) := yz (fun i => rfl)
  clear hS hD hwd hids
  obtain ⟨⟨p1, p2, p3⟩, hp⟩ : ∃ p, vA S k = p := ⟨_, rfl⟩
  obtain ⟨⟨q1, q2, q3⟩, hq⟩ : ∃ p, atV L L.length id = p := ⟨_, rfl⟩
  obtain ⟨sg, hsg⟩ : ∃ sg : Sg, sg = ((p1, p2, p3), (id, q1, q2, q3)) := ⟨_, rfl⟩
  have cV := yz (fun (W : World) hW => yy cA W id hW)
  rw [hq] at hid cV
  have HWK : Hid (wideD (p1, p2, p3) = true) := yz (by rw [← hp]; exact yy HWD k (Nat.le_refl _))
  have HIDS := yz hid
  rw [hp, hq, ← hsg]
  have HSG := yz hsg
  have HP := yz hp
  clear hp hq hsg hid
  generalize L.length = n at *
  go_enter Tryz.func146, Tryz.ntmps146
  go_wp2_with fail
  refine (yy cV _ (yy HS)).mono ?_
  rintro e W1 ⟨rfl, hx⟩
  unfold vecV
  simp only
  have Z := below1 W1 (.cells #[.int .i64 q1, .int .i64 q2, .int .i64 q3] 76)
  have HB1 := yz (below_call hx Z)
  have HV1 := yz (vecAt_new W1 q1 q2 q3 76)
  clear hx Z cV
  go_wp2_with fail
  generalize W1.alloc (.cells #[.int .i64 q1, .int .i64 q2, .int .i64 q3] 76) = W2 at HB1 HV1 ⊢
  generalize W1.heap.size = vb at *
  rcases hI with h0 | ⟨ib, io, rfl, hib, hic⟩
  · subst h0
    refine wp_loop_rounds 1 ?_
    rw [rounds_succ]
    go_wp2_with fail
    go_ret
    exact ⟨rfl, yy HB1⟩
  have HIC := yz hic
  clear hic
  rcases yy HD with h | ⟨bb, bo, rfl, hbb, hbc⟩
  · omega
  have HBC := yz hbc
  clear hbc
  go_loopw [11] (fun kk wr => ∃ i : Nat, i ≤ k ∧ kk = .int .i64 i ∧ Hid (∀ j, j < i → stepI L S ids sg j = true) ∧ Hid (VecAt wr vb q1 q2 q3) ∧ Hid (Below w.heap.size w wr)) (fun kk _ => k - (intOf kk).toNat)
  case atStart => exact ⟨0, by omega, rfl, yz (fun j hj => absurd hj (Nat.not_lt_zero _)), HV1, HB1⟩
  case round =>
    clear HV1 HB1
    obtain ⟨i, hi, rfl, HF, HV, HB⟩ := hrel
    by_cases hik : i < k
    · have hik2 : (i : Int) < (k : Int) := by omega
      have ci : wr.cell? ⟨ib, io + i, none⟩ = some (.int .i64 (ids.getD i 0)) := by rw [(yy HB).cell (p := ⟨ib, io + i, none⟩) hib]; exact yy HIC i hik
      have HSI := yz (yy HSO i)
      obtain ⟨x, hxi⟩ : ∃ x, ids.getD i 0 = x := ⟨_, rfl⟩
      rw [hxi] at ci HSI
      have HX := yz hxi
      clear hxi
      by_cases hx0 : x = 0
      · subst hx0
        have HOK := yz (stepI_zero (L := L) (S := S) (s := sg) (yy HX))
        go_wp2_with fail
        go_roundw
        case rel => exact ⟨i + 1, by omega, by go_num, yz (fun l hl => by
          by_cases e : l = i
          · rw [e]; exact yy HOK
          · exact yy HF l (by omega)), HV, HB⟩
        case measure => simp [intOf] <;> omega
      have hx0' : (x == 0) = false := by simp [hx0]
      have HXN : Hid (ids.getD i 0 ≠ 0) := yz (by rw [yy HX]; exact hx0)
      by_cases hxd : x = id
      · subst hxd
        have HNO := yz (fitsI_no hik (stepI_same (L := L) (S := S) (s := sg) (yy HXN) (by rw [yy HX, yy HSG])))
        go_wp2_with fail
        go_ret
        exact ⟨by rw [yy HNO]; rfl, yy HB⟩
      have hxd' : (x == id) = false := by simp [hxd]
      have HDX : Hid (sg.2.1 ≠ ids.getD i 0) := yz (by rw [yy HX, yy HSG]; exact fun e => hxd e.symm)
      have cW := yz (fun (W : World) hW => yy cA W x hW)
      have hsmx := yy HDS i hik (yy HXN)
      rw [yy HX] at hsmx
      obtain ⟨⟨w1, w2, w3⟩, hwv⟩ : ∃ p, atV L n x = p := ⟨_, rfl⟩
      rw [hwv] at cW hsmx HSI
      clear hwv
      obtain ⟨⟨s1, s2, s3⟩, hsv⟩ : ∃ p, vA S i = p := ⟨_, rfl⟩
      have HSVI := yz hsv
      rw [hsv] at HSI
      have hwi := yy HWD i (by omega)
      rw [hsv] at hwi
      clear hsv
      go_wp2_with fail
      refine (yy cW _ ((yy HS).kept (yy HB))).mono ?_
      rintro e W3 ⟨rfl, hx⟩
      unfold vecV
      simp only
      have Z := below1 W3 (.cells #[.int .i64 w1, .int .i64 w2, .int .i64 w3] 76)
      have HB3 := yz (below_call (below_call (yy HB) hx) Z)
      have HV3 := yz (((yy HV).kept (vltD (yy HV)) hx).kept (Nat.lt_of_lt_of_le (vltD (yy HV)) hx.size) Z)
      have HW3 := yz (vecAt_new W3 w1 w2 w3 76)
      clear hx Z cW ci HB HV
      go_wp2_with fail
      generalize W3.alloc (.cells #[.int .i64 w1, .int .i64 w2, .int .i64 w3] 76) = W4 at HB3 HV3 HW3 ⊢
      generalize W3.heap.size = wb at *
      have hsp := (yy HBC i (by omega)).kept hbb (yy HB3)
      have hpp := (yy HBC k (by omega)).kept hbb (yy HB3)
      rw [yy HSVI] at hsp
      rw [yy HP] at hpp
      have cC := yz (fun W => cos_call (s1, s2, s3) (p1, p2, p3) (w1, w2, w3) (q1, q2, q3) hwi (yy HWK) hsmx (yy HIDS) W)
      have HFA : Hid (farB sg (sgOf L S ids i) = decide (cosI s1 s2 s3 p1 p2 p3 w1 w2 w3 q1 q2 q3 = 0)) := yz (by rw [yy HSI, yy HSG]; rfl)
      generalize cosI s1 s2 s3 p1 p2 p3 w1 w2 w3 q1 q2 q3 = cv at *
      simp only at cC
      obtain ⟨c0, c1, c2⟩ := hsp
      obtain ⟨d0, d1, d2⟩ := hpp
      obtain ⟨e0, e1, e2⟩ := yy HV3
      obtain ⟨f0, f1, f2⟩ := yy HW3
      have rc0 := cell_regrown c0
      have rc1 := cell_regrown c1
      have rc2 := cell_regrown c2
      have rd0 := cell_regrown d0
      have rd1 := cell_regrown d1
      have rd2 := cell_regrown d2
      have re0 := cell_regrown e0
      have re1 := cell_regrown e1
      have re2 := cell_regrown e2
      have rf0 := cell_regrown f0
      have rf1 := cell_regrown f1
      have rf2 := cell_regrown f2
      clear c0 c1 c2 d0 d1 d2 e0 e1 e2 f0 f1 f2
      have hik3 : (i : Int) < (k : Int) + 1 := by omega
      have hkk3 : (k : Int) < (k : Int) + 1 := by omega
      refine wp_region_quiet_below (by kernel_rfl) (by kernel_rfl) ?_
      repeat (go_big_quiet_step (first | (with_reducible exact Calls.regrown_of (yy cC _))))
      refine wpQuiet_nil ?_
      intro _ hw'
      obtain ⟨⟨dq, osq⟩, hw''⟩ := hw'
      subst hw''
      have hx := below_regrown W4 dq osq
      have HB5 := yz (below_call (yy HB3) hx)
      have HV5 := yz ((yy HV3).kept (vltD (yy HV3)) hx)
      have HW5 := yz ((yy HW3).kept (vltD (yy HW3)) hx)
      generalize grow (redrawn W4 dq) osq = W5 at hx HB5 HV5 HW5 ⊢
      clear hx rc0 rc1 rc2 rd0 rd1 rd2 re0 re1 re2 rf0 rf1 rf2 cC HB3 HV3 HW3
      by_cases hcv : cv ≠ 0
      · have hcv' : (cv == 0) = false := by simp [hcv]
        have HNO := yz (fitsI_no hik (stepI_far (L := L) (S := S) (s := sg) (yy HXN) (by rw [yy HFA]; exact decide_eq_false hcv)))
        go_wp2_with fail
        go_ret
        exact ⟨by rw [yy HNO]; rfl, yy HB5⟩
      have hcv0 : cv = 0 := Decidable.not_not.1 hcv
      subst hcv0
      clear hcv
      have HFT : Hid (farB sg (sgOf L S ids i) = true) := yz (by rw [yy HFA]; rfl)
      clear HFA
      go_wp2_with fail
      go_loopw [13] (fun kk wr => ∃ j : Nat, j ≤ i ∧ kk = .int .i64 j ∧ Hid (sidesTo L S ids sg i j) ∧ Hid (VecAt wr vb q1 q2 q3) ∧ Hid (VecAt wr wb w1 w2 w3) ∧ Hid (Below w.heap.size w wr)) (fun kk _ => i - (intOf kk).toNat)
      case atStart => exact ⟨0, by omega, rfl, yz (sides_none _ _ _ _ _), HV5, HW5, HB5⟩
      case round =>
        clear HV5 HW5 HB5
        obtain ⟨j, hj, rfl, HL, HV, HW, HB⟩ := hrel
        by_cases hji : j < i
        · have hji2 : (j : Int) < (i : Int) := by omega
          have hjk2 : (j : Int) < (k : Int) := by omega
          have ci : wr.cell? ⟨ib, io + j, none⟩ = some (.int .i64 (ids.getD j 0)) := by rw [(yy HB).cell (p := ⟨ib, io + j, none⟩) hib]; exact yy HIC j (by omega)
          have HSJ := yz (yy HSO j)
          obtain ⟨y, hyi⟩ : ∃ x, ids.getD j 0 = x := ⟨_, rfl⟩
          rw [hyi] at ci HSJ
          have HY := yz hyi
          clear hyi
          by_cases hy0 : y = 0
          · subst hy0
            have HOK : Hid ((decide (ids.getD j 0 = 0) || sideB sg (sgOf L S ids j) (sgOf L S ids i)) = true) := yz (by rw [yy HY]; rfl)
            go_wp2_with fail
            go_roundw
            case rel => exact ⟨j + 1, by omega, by go_num, yz (sides_step (yy HL) (yy HOK)), HV, HW, HB⟩
            case measure => simp [intOf] <;> omega
          have hy0' : (y == 0) = false := by simp [hy0]
          have HYN : Hid (ids.getD j 0 ≠ 0) := yz (by rw [yy HY]; exact hy0)
          have cU := yz (fun (W : World) hW => yy cA W y hW)
          have hsmy := yy HDS j (by omega) (yy HYN)
          rw [yy HY] at hsmy
          obtain ⟨⟨u1, u2, u3⟩, huv⟩ : ∃ p, atV L n y = p := ⟨_, rfl⟩
          rw [huv] at cU hsmy HSJ
          clear huv
          obtain ⟨⟨t1, t2, t3⟩, htv⟩ : ∃ p, vA S j = p := ⟨_, rfl⟩
          have HTVJ := yz htv
          rw [htv] at HSJ
          have hwj := yy HWD j (by omega)
          rw [htv] at hwj
          clear htv
          go_wp2_with fail
          refine (yy cU _ ((yy HS).kept (yy HB))).mono ?_
          rintro e W6 ⟨rfl, hx⟩
          unfold vecV
          simp only
          have Z := below1 W6 (.cells #[.int .i64 u1, .int .i64 u2, .int .i64 u3] 76)
          have HB6 := yz (below_call (below_call (yy HB) hx) Z)
          have HV6 := yz (((yy HV).kept (vltD (yy HV)) hx).kept (Nat.lt_of_lt_of_le (vltD (yy HV)) hx.size) Z)
          have HW6 := yz (((yy HW).kept (vltD (yy HW)) hx).kept (Nat.lt_of_lt_of_le (vltD (yy HW)) hx.size) Z)
          have HU6 := yz (vecAt_new W6 u1 u2 u3 76)
          clear hx Z cU ci HB HV HW
          go_wp2_with fail
          generalize W6.alloc (.cells #[.int .i64 u1, .int .i64 u2, .int .i64 u3] 76) = W7 at HB6 HV6 HW6 HU6 ⊢
          generalize W6.heap.size = ub at *
          have hsp := (yy HBC i (by omega)).kept hbb (yy HB6)
          have htp := (yy HBC j (by omega)).kept hbb (yy HB6)
          have hpp := (yy HBC k (by omega)).kept hbb (yy HB6)
          rw [yy HSVI] at hsp
          rw [yy HTVJ] at htp
          rw [yy HP] at hpp
          obtain ⟨x1, x2, x3, dd, cX, cY, cZ⟩ := det_calls (t1, t2, t3) (s1, s2, s3) (p1, p2, p3) (wide_iff hwj).1 (wide_iff hwi).1 (wide_iff (yy HWK)).1
          obtain ⟨y1, y2, y3, d2, cX2, cY2, cZ2⟩ := det_calls (u1, u2, u3) (w1, w2, w3) (q1, q2, q3) (small_iff hsmy).1 (small_iff hsmx).1 (small_iff (yy HIDS)).1
          have HSB : Hid (sideB sg (sgOf L S ids j) (sgOf L S ids i) = decide (ordI (detD (t1, t2, t3) (s1, s2, s3) (p1, p2, p3)) 0 = ordI (detD (u1, u2, u3) (w1, w2, w3) (q1, q2, q3)) 0)) := yz (by rw [yy HSI, yy HSJ, yy HSG]; rfl)
          generalize ordI (detD (t1, t2, t3) (s1, s2, s3) (p1, p2, p3)) 0 = o1 at *
          generalize ordI (detD (u1, u2, u3) (w1, w2, w3) (q1, q2, q3)) 0 = o2 at *
          simp only at cX cY cZ cX2 cY2 cZ2
          obtain ⟨c0, c1, c2⟩ := hsp
          obtain ⟨d0, d1, d2'⟩ := hpp
          obtain ⟨e0, e1, e2⟩ := yy HV6
          obtain ⟨f0, f1, f2⟩ := yy HW6
          obtain ⟨g0, g1, g2⟩ := yy HU6
          obtain ⟨h0, h1, h2⟩ := htp
          have rc0 := cell_regrown c0
          have rc1 := cell_regrown c1
          have rc2 := cell_regrown c2
          have rd0 := cell_regrown d0
          have rd1 := cell_regrown d1
          have rd2 := cell_regrown d2'
          have re0 := cell_regrown e0
          have re1 := cell_regrown e1
          have re2 := cell_regrown e2
          have rf0 := cell_regrown f0
          have rf1 := cell_regrown f1
          have rf2 := cell_regrown f2
          have rg0 := cell_regrown g0
          have rg1 := cell_regrown g1
          have rg2 := cell_regrown g2
          have rh0 := cell_regrown h0
          have rh1 := cell_regrown h1
          have rh2 := cell_regrown h2
          clear c0 c1 c2 d0 d1 d2' e0 e1 e2 f0 f1 f2 g0 g1 g2 h0 h1 h2
          have hjk3 : (j : Int) < (k : Int) + 1 := by omega
          refine wp_region_quiet_below (by kernel_rfl) (by kernel_rfl) ?_
          repeat (go_big_quiet_step (first | (with_reducible exact Calls.regrown_of (yy cX _)) | (with_reducible exact Calls.regrown_of (yy cY _)) | (with_reducible exact Calls.regrown_of (yy cZ _)) | (with_reducible exact Calls.regrown_of (yy cX2 _)) | (with_reducible exact Calls.regrown_of (yy cY2 _)) | (with_reducible exact Calls.regrown_of (yy cZ2 _))))
          refine wpQuiet_nil ?_
          intro _ hw'
          obtain ⟨⟨dq, osq⟩, hw''⟩ := hw'
          subst hw''
          have hx := below_regrown W7 dq osq
          have HB8 := yz (below_call (yy HB6) hx)
          have HV8 := yz ((yy HV6).kept (vltD (yy HV6)) hx)
          have HW8 := yz ((yy HW6).kept (vltD (yy HW6)) hx)
          generalize grow (redrawn W7 dq) osq = W8 at hx HB8 HV8 HW8 ⊢
          clear hx rc0 rc1 rc2 rd0 rd1 rd2 re0 re1 re2 rf0 rf1 rf2 rg0 rg1 rg2 rh0 rh1 rh2 cX cY cZ cX2 cY2 cZ2 HB6 HV6 HW6 HU6
          by_cases ho : o1 = o2
          · subst ho
            have HOK : Hid ((decide (ids.getD j 0 = 0) || sideB sg (sgOf L S ids j) (sgOf L S ids i)) = true) := yz (by rw [yy HSB]; simp)
            go_wp2_with fail
            go_roundw
            case rel => first | exact ⟨j + 1, by omega, by go_num, yz (sides_step (yy HL) (yy HOK)), HV8, HW8, HB8⟩ | exact ⟨j + 1, by omega, by omega, yz (sides_step (yy HL) (yy HOK))⟩
            case measure => simp [intOf] <;> omega
          · have ho' : (o1 == o2) = false := by simp [ho]
            have HNO := yz (fitsI_no hik (stepI_side (L := L) (S := S) (s := sg) (yy HXN) hji (yy HYN) (by rw [yy HSB]; exact decide_eq_false ho)))
            go_wp2_with fail
            go_ret
            exact ⟨by rw [yy HNO]; rfl, yy HB8⟩
        · have hji' : j = i := by omega
          subst hji'
          have HOK := yz (stepI_yes (yy HDX) (yy HFT) (yy HL))
          go_wp2_with fail
          go_roundw
          case rel => exact ⟨j + 1, by omega, by go_num, yz (fun l hl => by
            by_cases e : l = j
            · rw [e]; exact yy HOK
            · exact yy HF l (by omega)), HV, HB⟩
          case measure => simp [intOf] <;> omega
    · have hik' : i = k := by omega
      subst hik'
      have HY := yz (fitsI_yes (yy HF))
      go_wp2_with fail
      go_ret
      exact ⟨by rw [yy HY]; rfl, yy HB⟩
theorem Dirs.sub {w : World} {a : Option Addr} {L : List D3} {n m : Nat} (h : Dirs w a L n) (hm : m ≤ n) : Dirs w a L m := h.less hm
theorem Nums.less {w : World} {a : Option Addr} {L : List Int} {n m : Nat} (h : Nums w a L n) (hm : m ≤ n) : Nums w a L m := by
  rcases h with h | ⟨b, o, ha, hb, hc⟩
  · exact .inl (by omega)
  · exact .inr ⟨b, o, ha, hb, fun i hi => hc i (by omega)⟩
end Go.Proofs.YtofpjlhoppofdaaGreatDoor
namespace Go.Proofs.YtofpjlhoppofdaaGreatDoor
open Go.RowKit Go.Deep Go.ChangeShapes
set_option linter.unusedVariables false
end Go.Proofs.YtofpjlhoppofdaaGreatDoor
namespace Go.Proofs.YtofpjlhoppofdaaGreatDoor
open Go.RowKit Go.Sort
set_option linter.unusedVariables false
def SeAt (w : World) (b : Nat) (v0 v1 v2 : Value) (c m : Int) : Prop := w.cell? ⟨b, 0, none⟩ = some v0 ∧ w.cell? ⟨b, 1, none⟩ = some v1 ∧ w.cell? ⟨b, 2, none⟩ = some v2 ∧ w.cell? ⟨b, 3, none⟩ = some (.int .i64 c) ∧ w.cell? ⟨b, 4, none⟩ = some (.int .i64 m)
theorem cellK5 {w w' : World} {a : Addr} {v : Value} (h : w.cell? a = some v) (hB : Below w.heap.size w w') : w'.cell? a = some v := (hB.cell (World.block_lt_of_cell? w a h)).trans h
theorem cellG5 {w w' : World} {a : Addr} {v : Value} {row : Option Nat} (h : w.cell? a = some v) (hg : w.grownBy w' row) (hne : some a.block ≠ row) : w'.cell? a = some v := (World.cell?_of_block (hg.block a.block (World.block_lt_of_cell? w a h) hne)).trans h
theorem SeAt.kept {w w' : World} {b : Nat} {v0 v1 v2 : Value} {c m : Int} (h : SeAt w b v0 v1 v2 c m) (hB : Below w.heap.size w w') : SeAt w' b v0 v1 v2 c m := ⟨cellK5 h.1 hB, cellK5 h.2.1 hB, cellK5 h.2.2.1 hB, cellK5 h.2.2.2.1 hB, cellK5 h.2.2.2.2 hB⟩
theorem SeAt.lt {w : World} {b : Nat} {v0 v1 v2 : Value} {c m : Int} (h : SeAt w b v0 v1 v2 c m) : b < w.heap.size := World.block_lt_of_cell? w _ h.1
def FreeX (w : World) (b : Nat) : Prop := ∀ i, w.frozen? ⟨b, i, none⟩ = false
theorem FreeX.kept {w w' : World} {b : Nat} (h : FreeX w b) (hb : b < w.heap.size) (hB : Below w.heap.size w w') : FreeX w' b := fun i => (hB.frozen (p := ⟨b, i, none⟩) hb).trans (h i)
theorem FreeX.set {w : World} {b : Nat} (h : FreeX w b) (p : Addr) (v : Value) : FreeX (w.setCell p v) b := fun i => by rw [World.frozen?_setCell]; exact h i
def IdsAt (w : World) (x : Nat) (ir : Option Addr) (ids : List Int) : Prop := (ids = [] ∧ ir = none) ∨ ∃ g, ir = some ⟨g, 0, none⟩ ∧ g ≠ x ∧ g < w.heap.size ∧ ∀ i, i < ids.length → w.cell? ⟨g, i, none⟩ = some (.int .i64 (ids.getD i 0))
theorem IdsAt.nums {w : World} {x : Nat} {ir : Option Addr} {ids : List Int} (h : IdsAt w x ir ids) : Nums w ir ids ids.length := by
  rcases h with ⟨rfl, _⟩ | ⟨g, rfl, _, hl, hc⟩
  · exact .inl rfl
  · exact .inr ⟨g, 0, rfl, hl, fun i hi => by rw [Nat.zero_add]; exact hc i hi⟩
theorem IdsAt.grown {w w' : World} {x : Nat} {ir : Option Addr} {ids : List Int} (h : IdsAt w x ir ids) (hg : w.grownBy w' (some x)) : IdsAt w' x ir ids := by
  rcases h with h | ⟨g, hi, hn, hl, hc⟩
  · exact .inl h
  · exact .inr ⟨g, hi, hn, Nat.lt_of_lt_of_le hl hg.size, fun i hi => cellG5 (hc i hi) hg (fun e => hn (Option.some.inj e))⟩
def Apart1 (a : Option Addr) (x : Nat) : Prop := ∀ y, a = some y → y.block ≠ x
theorem starsG {w w' : World} {a : Option Addr} {L : List St} {n x : Nat} (h : Stars w a L n) (hg : w.grownBy w' (some x)) (hne : Apart1 a x) : Stars w' a L n := by
  rcases h with h | ⟨b, o, rfl, hb, hc⟩
  · exact .inl h
  · refine .inr ⟨b, o, rfl, Nat.lt_of_lt_of_le hb hg.size, fun i hi => ?_⟩
    have hn : ∀ k, some (⟨b, k, none⟩ : Addr).block ≠ some x := fun k e => hne _ rfl (Option.some.inj e)
    obtain ⟨c0, c1, c2, c3⟩ := hc i hi
    exact ⟨cellG5 c0 hg (hn _), cellG5 c1 hg (hn _), cellG5 c2 hg (hn _), cellG5 c3 hg (hn _)⟩
theorem dirsG {w w' : World} {a : Option Addr} {L : List D3} {n x : Nat} (h : Dirs w a L n) (hg : w.grownBy w' (some x)) (hne : Apart1 a x) : Dirs w' a L n := by
  rcases h with h | ⟨b, o, rfl, hb, hc⟩
  · exact .inl h
  · refine .inr ⟨b, o, rfl, Nat.lt_of_lt_of_le hb hg.size, fun i hi => ?_⟩
    have hn : ∀ k, some (⟨b, k, none⟩ : Addr).block ≠ some x := fun k e => hne _ rfl (Option.some.inj e)
    obtain ⟨c0, c1, c2⟩ := hc i hi
    exact ⟨cellG5 c0 hg (hn _), cellG5 c1 hg (hn _), cellG5 c2 hg (hn _)⟩
structure SeSt (w : World) (x : Nat) (L : List St) (S : List D3) (ar br : Option Addr) (cr dr : Nat) (s : SeN) : Prop where
  cells : ∃ v, SeAt w x (.slice ar L.length cr) (.slice br S.length dr) v (s.count : Int) (s.many : Int) ∧ w.ownsRow (x + 1) 2 1 v s.best.length (intL s.best)
  free : FreeX w x
  stars : Stars w ar L L.length
  dirs : Dirs w br S S.length
  apS : Apart1 ar x
  apD : Apart1 br x
theorem ownK {w w' : World} {B n m : Nat} {t : TypeId} {v : Value} {xs : List Value} (h : w.ownsRow B t m v n xs) (hB : Below w.heap.size w w') : w'.ownsRow B t m v n xs := by
  obtain ⟨h1, h2⟩ := h
  refine ⟨h1, ?_⟩
  rcases h2 with h2 | ⟨g, c', cur, e, hg, hh, r⟩
  · exact .inl h2
  · exact .inr ⟨g, c', cur, e, hg, by rw [hB.block g (Array.getElem?_eq_some_iff.1 hh).1]; exact hh, r⟩
theorem ownSetX {w : World} {x n m : Nat} {t : TypeId} {v : Value} {xs : List Value} (h : w.ownsRow (x + 1) t m v n xs) (o : Nat) (y : Value) : (w.setCell ⟨x, o, none⟩ y).ownsRow (x + 1) t m v n xs := by
  obtain ⟨h1, h2⟩ := h
  refine ⟨h1, ?_⟩
  rcases h2 with h2 | ⟨g, c', cur, e, hg, hh, r⟩
  · exact .inl h2
  · exact .inr ⟨g, c', cur, e, hg, by rw [Below.heap_setCell w ⟨x, o, none⟩ y g (by show g ≠ x; omega)]; exact hh, r⟩
theorem grownB1 {w w' : World} {x : Nat} (h : Below w.heap.size w w') : w.grownBy w' (some x) := ⟨h.os, h.tape, h.output, h.size, fun k hk _ => h.block k hk⟩
theorem SeSt.kept {w w' : World} {x : Nat} {L : List St} {S : List D3} {ar br : Option Addr} {cr dr : Nat} {s : SeN} (h : SeSt w x L S ar br cr dr s) (hB : Below w.heap.size w w') : SeSt w' x L S ar br cr dr s := by
  obtain ⟨⟨v, h1, h2⟩, hf, hs, hd, a1, a2⟩ := h
  exact ⟨⟨v, h1.kept hB, ownK h2 hB⟩, hf.kept h1.lt hB, hs.kept hB, hd.kept hB, a1, a2⟩
def fitF (L : List St) (S : List D3) (ids : List Int) (a : Int) : Bool := fitsI L S ids (vA S ids.length, (a, atV L L.length a)) ids.length
def smallI (L : List St) (ids : List Int) : Prop := ∀ i, i < ids.length → ids.getD i 0 ≠ 0 → smallB (atV L L.length (ids.getD i 0)).1 (atV L L.length (ids.getD i 0)).2.1 (atV L L.length (ids.getD i 0)).2.2 = true
def FromOk (L : List St) (S : List D3) (ar br : Option Addr) (cr dr x r : Nat) : Prop := ∀ (ids : List Int) (s : SeN) (ir : Option Addr) (er : Nat) (w : World), ids.length + r = S.length → smallI L ids → s.many + 13 ^ r ≤ 100000000 → s.count ≤ 6 → (ir = none → er = 0) → IdsAt w x ir ids → SeSt w x L S ar br cr dr s →
    Calls Tryz.prog 115 #[.pointer (some ⟨x, 0, none⟩), .slice ir ids.length er, .int .i64 (cntN ids : Int)] w fun e w' => (∃ v, e = .returned v) ∧ SeSt w' x L S ar br cr dr (fromN (fitF L S) (L.map (·.1)) r ids s) ∧ w.grownBy w' (some x)
set_option maxHeartbeats 4000000 in
set_option maxRecDepth 100000 in
theorem from_prune (L : List St) (S : List D3) (ar br : Option Addr) (cr dr x r : Nat) (hm6 : S.length ≤ 6) (ids : List Int) (s : SeN) (ir : Option Addr) (er : Nat) (w : World) (hl : ids.length + r = S.length) (hc6 : s.count ≤ 6) (hst : SeSt w x L S ar br cr dr s) (hp : cntN ids + r < s.count) :
    Calls Tryz.prog 115 #[.pointer (some ⟨x, 0, none⟩), .slice ir ids.length er, .int .i64 (cntN ids : Int)] w fun e w' => (∃ v, e = .returned v) ∧ SeSt w' x L S ar br cr dr (fromN (fitF L S) (L.map (·.1)) r ids s) ∧ w.grownBy w' (some x) := by
  have HS := yz hst
  have HF := yz (fromN_prune (F := fitF L S) (A := L.map (·.1)) hp)
  obtain ⟨⟨v, h1, h2⟩, hf, hs, hd, a1, a2⟩ := hst
  obtain ⟨c0, c1, c2, c3, c4⟩ := h1
  have r1 := cell_regrown c1
  have r3 := cell_regrown c3
  have hc := cntN_le ids
  generalize cntN ids = cn at *
  generalize ids.length = k at *
  generalize S.length = m at *
  clear h2 hf hs hd a1 a2 c0 c1 c2 c3 c4
  have hq : (cn : Int) + (m : Int) - (k : Int) < (s.count : Int) := by omega
  go_enter Tryz.func115, Tryz.ntmps115
  go_wp2_with fail
  refine wp_region_quiet_below (by kernel_rfl) (by kernel_rfl) ?_
  repeat (go_big_quiet_step (fail))
  refine wpQuiet_nil ?_
  intro _ hw'
  obtain ⟨⟨dq, osq⟩, hw''⟩ := hw'
  subst hw''
  have hx := below_regrown w dq osq
  go_wp2_with fail
  refine bodyPost_ret (results_none rfl _ _ _) rfl ?_
  exact ⟨⟨_, rfl⟩, by rw [yy HF]; exact (yy HS).kept hx, grownB1 hx⟩
theorem run_append_nilR {P : Program} (w : World) (t ty e : TypeId) (i : TypeInfo) (ht : P.underlying t = some (.slice e)) (hi : P.info? e = some i) (g : Nat) :
    (Builtin.append_ #[t, t] ty #[.slice (some ⟨g, 0, none⟩) 0 0, .slice none 0 0]).run P w = .ok (.slice (some ⟨g, 0, none⟩) 0 0) w := by
  simp [Builtin.append_, run_underlying ht, sizeOf, typeInfo, hi, Builtin.lenOf, Builtin.firstCells, loadCells, loadCellsFrom, storeCells]
theorem intL_at {w : World} {g : Nat} {ids : List Int} (hc : ∀ i, i < ids.length → w.cell? ⟨g, i, none⟩ = some (.int .i64 (ids.getD i 0))) (j : Nat) (u : Value) (hj : (intL ids)[j]? = some u) : w.cell? ((⟨g, 0, none⟩ : Addr).add j) = some u := by
  have hA : (⟨g, 0, none⟩ : Addr).add j = ⟨g, 0 + j, none⟩ := by unfold Addr.add; split <;> simp_all
  unfold intL at hj
  rw [List.getElem?_map] at hj
  have hlt : j < ids.length := by
    rcases Nat.lt_or_ge j ids.length with h | h
    · exact h
    · rw [List.getElem?_eq_none h] at hj; cases hj
  rw [hA, Nat.zero_add, hc j hlt]
  rw [List.getElem?_eq_getElem hlt] at hj
  rw [List.getD_eq_getElem?_getD, List.getElem?_eq_getElem hlt]
  exact hj
theorem intL_len (ids : List Int) : (intL ids).length = ids.length := by unfold intL; rw [List.length_map]
theorem wpList_copyIds (w : World) {ops : Array Oper} {rest : List Oper} {o : Oper} {a : Act} {Q : Exit → Act → World → Prop} (hgd : o.guard = none) (s x : Operand)
    (ho : o.op = .call { callee := .builtin .append, args := #[s, x], argTypes := #[85, 85] })
    (base g : Nat) (hs : a.eval s = .slice (some ⟨g, 0, none⟩) 0 0) (hown : w.ownsRow base 2 1 (.slice (some ⟨g, 0, none⟩) 0 0) 0 []) (y : Nat) (ir : Option Addr) (er : Nat) (ids : List Int) (hx : a.eval x = .slice ir ids.length er) (he : ir = none → er = 0) (hI : IdsAt w y ir ids) (hk : ids.length ≤ 6) (hbase : base ≤ w.heap.size)
    (h : ∀ v' w', w'.ownsRow base 2 1 v' ids.length (intL ids) → w.grownBy w' (some g) → wpList Tryz.prog ops Q rest (a.put o.dst v') w') : wpList Tryz.prog ops Q (o :: rest) a w := by
  obtain ⟨i0, hinf, hz0, hz1, hz2⟩ := info_parts info_i64
  rcases hI with ⟨rfl, rfl⟩ | ⟨b, rfl, _, hl, hc⟩
  · obtain rfl := he rfl
    have hr := run_append_nilR (P := Tryz.prog) w 85 o.type 2 i0 Tryz.underlying85 hinf g
    refine wpList_plain hgd fun _ hK => ?_
    unfold Oper.wp execOp
    simp only [List.length_nil] at hx
    simp only [ho, resolve, invoke, builtin, Sem.run_bind, Sem.run_pure, Result.andThen_ok, List.map_toArray, List.map_cons, List.map_nil, hs, hx, hr]
    exact hK _ _ (h _ _ hown ⟨rfl, rfl, rfl, Nat.le_refl _, fun _ _ _ => rfl⟩)
  · have hm : 6 ≤ maxLen := by decide +kernel
    refine wpList_append_own w hgd s x 85 ho base 2 i0 (.int .i64 0) 1 8 Tryz.underlying85 hinf hz0 hz1 hz2 rfl (by decide) _ 0 [] hs hown ⟨b, 0, none⟩ ids.length er (intL ids) hx (by rw [intL_len, Nat.mul_one]) (intL_at hc) (fun u hu => intL_cell hu) (by omega) (by omega) hbase ?_
    intro v' w' h2 h3 _
    rw [Nat.zero_add, List.nil_append] at h2
    exact h v' w' h2 h3
theorem own_form {w : World} {B n m : Nat} {t : TypeId} {v : Value} {xs : List Value} (h : w.ownsRow B t m v n xs) : ∃ a cap, v = .slice a n cap := by
  rcases h.2 with ⟨h1, h0⟩ | ⟨g, c', cur, e, _⟩
  · exact ⟨none, 0, by rw [h1, h0]⟩
  · exact ⟨_, _, e⟩
theorem gxSet {w w1 : World} {x : Nat} (h : w.grownBy w1 (some x)) (o : Nat) (y : Value) : w.grownBy (w1.setCell ⟨x, o, none⟩ y) (some x) := grownSet h o y
theorem gxAlloc {w w1 : World} {x : Nat} (h : w.grownBy w1 (some x)) (o : Obj) : w.grownBy (w1.alloc o) (some x) := ⟨h.os, h.tape, h.output, Nat.le_trans h.size (by simp), fun k hk hn => (Below.heap_alloc w1 o k (Nat.lt_of_lt_of_le hk h.size)).trans (h.block k hk hn)⟩
theorem gxNew {w w1 w2 : World} {x g : Nat} (h : w.grownBy w1 (some x)) (hg : w1.grownBy w2 (some g)) (hb : w.heap.size ≤ g) : w.grownBy w2 (some x) := ⟨hg.os.trans h.os, hg.tape.trans h.tape, hg.output.trans h.output, Nat.le_trans h.size hg.size, fun k hk hn => (hg.block k (Nat.lt_of_lt_of_le hk h.size) (fun e => by have := Option.some.inj e; omega)).trans (h.block k hk hn)⟩
theorem gxTrans {w w1 w2 : World} {x : Nat} (h : w.grownBy w1 (some x)) (hg : w1.grownBy w2 (some x)) : w.grownBy w2 (some x) := ⟨hg.os.trans h.os, hg.tape.trans h.tape, hg.output.trans h.output, Nat.le_trans h.size hg.size, fun k hk hn => (hg.block k (Nat.lt_of_lt_of_le hk h.size) hn).trans (h.block k hk hn)⟩
theorem SeAt.grown {w w' : World} {b : Nat} {v0 v1 v2 : Value} {c m : Int} {row : Option Nat} (h : SeAt w b v0 v1 v2 c m) (hg : w.grownBy w' row) (hne : some b ≠ row) : SeAt w' b v0 v1 v2 c m := ⟨cellG5 h.1 hg hne, cellG5 h.2.1 hg hne, cellG5 h.2.2.1 hg hne, cellG5 h.2.2.2.1 hg hne, cellG5 h.2.2.2.2 hg hne⟩
theorem FreeX.grown {w w' : World} {b : Nat} {row : Option Nat} (h : FreeX w b) (hb : b < w.heap.size) (hg : w.grownBy w' row) (hne : some b ≠ row) : FreeX w' b := fun i => by
  have h1 := h i
  unfold World.frozen? at h1 ⊢
  rw [hg.block b hb hne]
  exact h1
theorem seAt_34 {w : World} {b : Nat} {v0 v1 v2 : Value} {c m : Int} (h : SeAt w b v0 v1 v2 c m) (c' m' : Int) : SeAt ((w.setCell ⟨b, 3, none⟩ (.int .i64 c')).setCell ⟨b, 4, none⟩ (.int .i64 m')) b v0 v1 v2 c' m' := by
  obtain ⟨h0, h1, h2, h3, h4⟩ := h
  refine ⟨?_, ?_, ?_, ?_, ?_⟩ <;> simp [go_sem, h0, h1, h2, h3, h4]
theorem seAt_24 {w : World} {b : Nat} {v0 v1 v2 : Value} {c m : Int} (h : SeAt w b v0 v1 v2 c m) (v' : Value) (m' : Int) : SeAt ((w.setCell ⟨b, 2, none⟩ v').setCell ⟨b, 4, none⟩ (.int .i64 m')) b v0 v1 v' c m' := by
  obtain ⟨h0, h1, h2, h3, h4⟩ := h
  refine ⟨?_, ?_, ?_, ?_, ?_⟩ <;> simp [go_sem, h0, h1, h2, h3, h4]
theorem seSt_mk {w w' : World} {x : Nat} {L : List St} {S : List D3} {ar br : Option Addr} {cr dr : Nat} {s s' : SeN} {v' : Value} (h : SeSt w x L S ar br cr dr s) (hg : w.grownBy w' (some x)) (hc : SeAt w' x (.slice ar L.length cr) (.slice br S.length dr) v' (s'.count : Int) (s'.many : Int)) (ho : w'.ownsRow (x + 1) 2 1 v' s'.best.length (intL s'.best)) (hf : FreeX w' x) : SeSt w' x L S ar br cr dr s' :=
  ⟨⟨v', hc, ho⟩, hf, starsG h.stars hg h.apS, dirsG h.dirs hg h.apD, h.apS, h.apD⟩
set_option maxHeartbeats 4000000 in
set_option maxRecDepth 100000 in
theorem from_leaf (L : List St) (S : List D3) (ar br : Option Addr) (cr dr x : Nat) (hm6 : S.length ≤ 6) (ids : List Int) (s : SeN) (ir : Option Addr) (er : Nat) (w : World) (hl : ids.length + 0 = S.length) (hmany : s.many + 1 ≤ 100000000) (hc6 : s.count ≤ 6) (he : ir = none → er = 0) (hI : IdsAt w x ir ids) (hst : SeSt w x L S ar br cr dr s) (hp : ¬ cntN ids + 0 < s.count) :
    Calls Tryz.prog 115 #[.pointer (some ⟨x, 0, none⟩), .slice ir ids.length er, .int .i64 (cntN ids : Int)] w fun e w' => (∃ v, e = .returned v) ∧ SeSt w' x L S ar br cr dr (fromN (fitF L S) (L.map (·.1)) 0 ids s) ∧ w.grownBy w' (some x) := by
  obtain ⟨bst, ct, mn⟩ := s
  dsimp only at hmany hc6 hp
  have HS := yz hst
  have HI := yz hI
  have HF := yz (fromN_leaf (F := fitF L S) (A := L.map (·.1)) (s := ⟨bst, ct, mn⟩) hp)
  obtain ⟨⟨v, h1, h2⟩, hf, hs, hd, a1, a2⟩ := hst
  dsimp only at h1
  obtain ⟨c0, c1, c2, c3, c4⟩ := h1
  have r1 := cell_regrown c1
  have r3 := cell_regrown c3
  have hc := cntN_le ids
  obtain ⟨cn, hcn⟩ : ∃ cn, cntN ids = cn := ⟨_, rfl⟩
  have HCN := yz hcn
  rw [hcn] at hp hc ⊢
  clear hcn
  by_cases hgt : ct < cn
  · have hk6 : ids.length ≤ 6 := by omega
    have HE := yz he
    have HKM : Hid (S.length = ids.length) := yz (by omega)
    clear h2 hf hs hd a1 a2 c0 c1 c2 c3 c4 hI he
    rw [yy HKM] at r1
    have hq : ¬ (cn : Int) < (ct : Int) := by omega
    go_enter Tryz.func115, Tryz.ntmps115
    go_wp2_with fail
    refine wp_region_quiet_below (by kernel_rfl) (by kernel_rfl) ?_
    repeat (go_big_quiet_step (fail))
    refine wpQuiet_nil ?_
    intro _ hw'
    obtain ⟨⟨dq, osq⟩, hw''⟩ := hw'
    subst hw''
    have hx := below_regrown w dq osq
    generalize grow (redrawn w dq) osq = w1 at hx ⊢
    have S1 := yz ((yy HS).kept hx)
    have I1 := yz ((yy HI).grown (grownB1 hx))
    have B1 := yz hx
    clear hx r1 r3 HS HI hq
    obtain ⟨⟨v, h1, h2⟩, hf, hs, hd, a1, a2⟩ := yy S1
    dsimp only at h1
    have H1 := yz h1
    have HFr := yz hf
    have hxl := h1.lt
    obtain ⟨c0, c1, c2, c3, c4⟩ := h1
    rw [yy HKM] at c1
    have f2 := hf 2
    have f3 := hf 3
    have f4 := hf 4
    clear hf hs hd a1 a2 h2
    have hgt' : (ct : Int) < (cn : Int) := by omega
    have HO : Hid (stepSe ⟨bst, ct, mn⟩ ids = ⟨ids, cn, 1⟩) := yz (by unfold stepSe; rw [yy HCN, if_pos hgt])
    have hz : ((w1.setCell ⟨x, 3, none⟩ (.int .i64 (cn : Int))).setCell ⟨x, 4, none⟩ (.int .i64 0)).heap.size = w1.heap.size := by simp
    have HN : Hid ((((w1.setCell ⟨x, 3, none⟩ (.int .i64 (cn : Int))).setCell ⟨x, 4, none⟩ (.int .i64 0)).alloc (.cells #[] 2)).ownsRow (x + 1) 2 1 (.slice (some ⟨w1.heap.size, 0, none⟩) 0 0) 0 []) := yz (by have := ownI_none ((w1.setCell ⟨x, 3, none⟩ (.int .i64 (cn : Int))).setCell ⟨x, 4, none⟩ (.int .i64 0)) (x + 1) (by omega); rw [hz] at this; exact this)
    have HG2 : Hid (w1.grownBy (((w1.setCell ⟨x, 3, none⟩ (.int .i64 (cn : Int))).setCell ⟨x, 4, none⟩ (.int .i64 0)).alloc (.cells #[] 2)) (some x)) := yz (gxAlloc (gxSet (gxSet (grownRefl w1 (some x)) _ _) _ _) _)
    have I2 := yz ((yy I1).grown (yy HG2))
    have A2 := yz ((seAt_34 (yy H1) (cn : Int) 0).kept (below1 _ (.cells #[] 2)))
    have F2 := yz ((((yy HFr).set ⟨x, 3, none⟩ (.int .i64 (cn : Int))).set ⟨x, 4, none⟩ (.int .i64 0)).kept (by omega) (below1 _ (.cells #[] 2)))
    go_wp2_with (at_builtin; refine wpList_copyIds _ rfl _ _ rfl (x + 1) w1.heap.size rfl (yy HN) x ir er ids rfl (yy HE) (yy I2) hk6 ?d1 ?_)
    case d1 => simp; omega
    intro v' w3 ho hg
    obtain ⟨av, cv, rfl⟩ := own_form ho
    have A3 := yz ((yy A2).grown hg (fun e => by have := Option.some.inj e; omega))
    have F3 := yz ((yy F2).grown (yy A2).lt hg (fun e => by have := Option.some.inj e; omega))
    have G3 := yz (gxNew (yy HG2) hg (Nat.le_refl _))
    have O3 := yz ho
    clear ho hg c0 c1 c2 c3 c4 f2 f3 f4 HN HG2 I2 A2 F2 hz
    obtain ⟨c0, c1, c2, c3, c4⟩ := yy A3
    have f2 := yy F3 2
    have f4 := yy F3 4
    go_wp2_with fail
    refine bodyPost_ret (results_none rfl _ _ _) rfl ?_
    have G4 := gxSet (gxSet (yy G3) 2 (.slice av ids.length cv)) 4 (.int .i64 1)
    refine ⟨⟨_, rfl⟩, ?_, gxTrans (grownB1 (yy B1)) G4⟩
    rw [yy HF, yy HO]
    exact seSt_mk (yy S1) G4 (seAt_24 (yy A3) (.slice av ids.length cv) 1) (ownSetX (ownSetX (yy O3) _ _) _ _) (((yy F3).set _ _).set _ _)
  · obtain rfl : cn = ct := by omega
    have HO : Hid (stepSe ⟨bst, cn, mn⟩ ids = ⟨ids, cn, mn + 1⟩) := yz (by unfold stepSe; dsimp only; rw [yy HCN, if_neg hgt, if_pos rfl])
    have HMN := yz (show (mn : Int) + 1 ≤ 100000000 by omega)
    clear hgt hp hmany
    have hk6 : ids.length ≤ 6 := by omega
    have HE := yz he
    have HKM : Hid (S.length = ids.length) := yz (by omega)
    clear h2 hf hs hd a1 a2 c0 c1 c2 c3 c4 hI he
    rw [yy HKM] at r1
    go_enter Tryz.func115, Tryz.ntmps115
    go_wp2_with fail
    refine wp_region_quiet_below (by kernel_rfl) (by kernel_rfl) ?_
    repeat (go_big_quiet_step (fail))
    refine wpQuiet_nil ?_
    intro _ hw'
    obtain ⟨⟨dq, osq⟩, hw''⟩ := hw'
    subst hw''
    have hx := below_regrown w dq osq
    generalize grow (redrawn w dq) osq = w1 at hx ⊢
    have S1 := yz ((yy HS).kept hx)
    have I1 := yz ((yy HI).grown (grownB1 hx))
    have B1 := yz hx
    clear hx r1 r3 HS HI
    obtain ⟨⟨v, h1, h2⟩, hf, hs, hd, a1, a2⟩ := yy S1
    dsimp only at h1
    have H1 := yz h1
    have HFr := yz hf
    have hxl := h1.lt
    obtain ⟨c0, c1, c2, c3, c4⟩ := h1
    rw [yy HKM] at c1
    have f2 := hf 2
    have f3 := hf 3
    have f4 := hf 4
    clear hf hs hd a1 a2 h2
    have HN : Hid ((w1.alloc (.cells #[] 2)).ownsRow (x + 1) 2 1 (.slice (some ⟨w1.heap.size, 0, none⟩) 0 0) 0 []) := yz (ownI_none w1 (x + 1) (by omega))
    have HG2 : Hid (w1.grownBy (w1.alloc (.cells #[] 2)) (some x)) := yz (gxAlloc (grownRefl w1 (some x)) _)
    have I2 := yz ((yy I1).grown (yy HG2))
    have A2 := yz ((yy H1).kept (below1 _ (.cells #[] 2)))
    have F2 := yz ((yy HFr).kept hxl (below1 _ (.cells #[] 2)))
    go_wp2_with (at_builtin; refine wpList_copyIds _ rfl _ _ rfl (x + 1) w1.heap.size rfl (yy HN) x ir er ids rfl (yy HE) (yy I2) hk6 ?d1 ?_)
    case d1 => simp; omega
    intro v' w3 ho hg
    obtain ⟨av, cv, rfl⟩ := own_form ho
    have A3 := yz ((yy A2).grown hg (fun e => by have := Option.some.inj e; omega))
    have F3 := yz ((yy F2).grown (yy A2).lt hg (fun e => by have := Option.some.inj e; omega))
    have G3 := yz (gxNew (yy HG2) hg (Nat.le_refl _))
    have O3 := yz ho
    clear ho hg c0 c1 c2 c3 c4 f2 f3 f4 HN HG2 I2 A2 F2
    obtain ⟨c0, c1, c2, c3, c4⟩ := yy A3
    have hmn := yy HMN
    have hmn0 : (0 : Int) ≤ (mn : Int) := by omega
    generalize hmi : (mn : Int) = mi at *
    have f2 := yy F3 2
    have f4 := yy F3 4
    go_wp2_with fail
    subst hmi
    refine bodyPost_ret (results_none rfl _ _ _) rfl ?_
    have G4 := gxSet (gxSet (yy G3) 2 (.slice av ids.length cv)) 4 (.int .i64 ((mn : Int) + 1))
    refine ⟨⟨_, rfl⟩, ?_, gxTrans (grownB1 (yy B1)) G4⟩
    rw [yy HF, yy HO]
    exact seSt_mk (yy S1) G4 (seAt_24 (yy A3) (.slice av ids.length cv) ((mn : Int) + 1)) (ownSetX (ownSetX (yy O3) _ _) _ _) (((yy F3).set _ _).set _ _)
theorem intL_snoc (ids : List Int) (a : Int) : intL ids ++ [.int .i64 a] = intL (ids ++ [a]) := by unfold intL; rw [List.map_append]; rfl
theorem ids_own {w : World} {B x cap : Nat} {a : Option Addr} {ids : List Int} (h : w.ownsRow B 2 1 (.slice a ids.length cap) ids.length (intL ids)) (hx : x < B) : IdsAt w x a ids := by
  rcases h.2 with ⟨h1, h0⟩ | ⟨g, c', cur, e, hb, hg, hnc, hcm, hcs, htake⟩
  · injection h1 with h1
    exact .inl ⟨List.eq_nil_of_length_eq_zero h0, h1⟩
  · injection e with e1
    refine .inr ⟨g, e1, by omega, (Array.getElem?_eq_some_iff.1 hg).1, fun i hi => ?_⟩
    rw [cell_of_row w g i cur _ _ hg]
    have e4 : cur[i]? = (intL ids)[i]? := by
      rw [← htake, List.getElem?_take, if_pos (by omega)]
      simp
    rw [e4]
    unfold intL
    rw [List.getElem?_map, List.getElem?_eq_getElem hi, List.getD_eq_getElem?_getD, List.getElem?_eq_getElem hi]
    rfl
theorem own_cap0 {w : World} {B n cap : Nat} {a : Option Addr} {xs : List Value} (h : w.ownsRow B 2 1 (.slice a n cap) n xs) (ha : a = none) : cap = 0 := by
  rcases h.2 with ⟨h1, h0⟩ | ⟨g, c', cur, e, _⟩
  · injection h1
  · injection e with e1; rw [ha] at e1; cases e1
theorem own_ge {w : World} {B n : Nat} {v : Value} {xs : List Value} (h : w.ownsRow B 2 1 v n xs) (g : Nat) (e : v.ownBlock = some g) : B ≤ g := by
  rcases h.2 with ⟨h1, _⟩ | ⟨g', c', cur, e', hb, _⟩
  · rw [h1] at e; cases e
  · rw [e'] at e; simp [Value.ownBlock] at e; omega
theorem wpList_oneMore (w : World) {ops : Array Oper} {rest : List Oper} {o : Oper} {a : Act} {Q : Exit → Act → World → Prop} (hgd : o.guard = none) (s x : Operand)
    (ho : o.op = .call { callee := .builtin .append, args := #[s, x], argTypes := #[85, 85] })
    (base : Nat) (v : Value) (ids : List Int) (hs : a.eval s = v) (hown : w.ownsRow base 2 1 v ids.length (intL ids)) (g : Nat) (z : Int) (hx : a.eval x = .slice (some ⟨g, 0, none⟩) 1 1) (hc : w.cell? ⟨g, 0, none⟩ = some (.int .i64 z)) (hk : ids.length ≤ 6) (hbase : base ≤ w.heap.size)
    (h : ∀ v' w', w'.ownsRow base 2 1 v' (ids ++ [z]).length (intL (ids ++ [z])) → w.grownBy w' v.ownBlock → wpList Tryz.prog ops Q rest (a.put o.dst v') w') : wpList Tryz.prog ops Q (o :: rest) a w := by
  obtain ⟨i0, hinf, hz0, hz1, hz2⟩ := info_parts info_i64
  have hm : 7 ≤ maxLen := by decide +kernel
  refine wpList_append_own w hgd s x 85 ho base 2 i0 (.int .i64 0) 1 8 Tryz.underlying85 hinf hz0 hz1 hz2 rfl (by decide) v ids.length (intL ids) hs hown ⟨g, 0, none⟩ 1 1 [.int .i64 z] hx rfl ?_ (fun u hu => by rw [List.mem_singleton.1 hu]; rfl) (by omega) (by omega) hbase ?_
  · intro j u hj
    match j, hj with
    | 0, hj =>
      obtain rfl : Value.int .i64 z = u := by simpa using hj
      have hA : (⟨g, 0, none⟩ : Addr).add 0 = ⟨g, 0, none⟩ := by unfold Addr.add; split <;> simp_all
      rw [hA]
      exact hc
    | j + 1, hj => simp at hj
  · intro v' w' h2 h3 _
    rw [intL_snoc] at h2
    exact h v' w' (by rw [List.length_append]; exact h2) h3
theorem small_snoc {L : List St} {ids : List Int} {a : Int} (h : smallI L ids) (ha : a ≠ 0 → smallB (atV L L.length a).1 (atV L L.length a).2.1 (atV L L.length a).2.2 = true) : smallI L (ids ++ [a]) := by
  intro i hi h0
  rw [List.length_append, List.length_singleton] at hi
  by_cases e : i < ids.length
  · have e1 : (ids ++ [a]).getD i 0 = ids.getD i 0 := by rw [List.getD_eq_getElem?_getD, List.getD_eq_getElem?_getD, List.getElem?_append_left e]
    rw [e1] at h0 ⊢
    exact h i e h0
  · have e1 : (ids ++ [a]).getD i 0 = a := by
      rw [List.getD_eq_getElem?_getD, List.getElem?_append_right (by omega), show i - ids.length = 0 by omega]
      rfl
    rw [e1] at h0 ⊢
    exact ha h0
theorem fold_count (F : List Int → Int → Bool) (A : List Int) : ∀ (r : Nat) (ids : List Int) (s : SeN), s.count ≤ 6 → ids.length + r ≤ 6 → (fromN F A r ids s).count ≤ 6 := by
  intro r ids s h1 h2
  rw [fromN_eq]
  have hall : ∀ l ∈ allN F A r ids, cntN l ≤ 6 := fun l hl => by have := allN_cnt F A r ids l hl; have := cntN_le ids; omega
  generalize allN F A r ids = M at hall
  induction M generalizing s with
  | nil => exact h1
  | cons l M ih =>
    rw [List.foldl_cons]
    refine ih (stepSe s l) ?_ (fun x hx => hall x (by simp [hx]))
    have h3 := stepSe_count s l
    have h4 := hall l (by simp)
    omega
theorem loop_count (F : List Int → Int → Bool) (A : List Int) (r : Nat) (ids : List Int) (s : SeN) (h1 : s.count ≤ 6) (h2 : ids.length + 1 + r ≤ 6) : ∀ i, i ≤ A.length → (loopN F A r ids s i).count ≤ 6
  | 0, _ => h1
  | i + 1, h => by
    rw [loopN_succ F A r ids s (by omega)]
    have h3 := loop_count F A r ids s h1 h2 i (by omega)
    split
    · exact fold_count F A r _ _ h3 (by rw [List.length_append, List.length_singleton]; omega)
    · exact h3
end Go.Proofs.YtofpjlhoppofdaaGreatDoor
