/- Several texts in one: SplitM. -/
import Derived.Laws.AppendOwn
import Derived.Test.YtlleafjdgblhcaaGreatDoorQDeskRunOwn6
import Derived.Test.YtlleafjdgblhcaaGreatDoorQDeskRunOwn5
namespace Go.Proofs.YtlleafjdgblhcaaGreatDoor
set_option linter.unusedVariables false
set_option linter.unusedSimpArgs false
set_option maxRecDepth 100000
set_option maxHeartbeats 8000000
section
open Go.RowKit
theorem nc {a b c : World} {row r : Option Nat} (h : a.grownBy b row) (k : b.grownBy c r) (hr : ∀ i, r = some i → a.heap.size ≤ i) : a.grownBy c row :=
 ⟨k.os.trans h.os, k.tape.trans h.tape, k.output.trans h.output, Nat.le_trans h.size k.size, fun i hi hn => (k.block i (Nat.lt_of_lt_of_le hi h.size) (fun e => by have := hr i e.symm; omega)).trans (h.block i hi hn)⟩
theorem qA {a b : World} {row : Option Nat} (h : a.grownBy b row) (o : Obj) : a.grownBy (b.alloc o) row := nc h (World.grownBy_alloc b o none) (fun i e => by cases e)
theorem oy {a b : World} (h : a.grownBy b none) : Below a.heap.size a b := ⟨h.os, h.tape, h.output, h.size, fun i hi => h.block i hi (fun e => by cases e)⟩
theorem CU : (Tryz.prog.info? 9).map (fun i => (i.zero, i.size, i.bytes)) = some (some (.string ⟨#[]⟩), 1, 16) := by kernel_rfl
theorem Bf : ∃ i : TypeInfo, Tryz.prog.info? 9 = some i ∧ i.zero = some (.string ⟨#[]⟩) ∧ i.size = 1 ∧ i.bytes = 16 := by
 have h := CU
 cases hi : Tryz.prog.info? 9 with
 | none => rw [hi] at h; cases h
 | some i =>
  rw [hi] at h
  have := Option.some.inj h
  simp only [Prod.mk.injEq] at this
  exact ⟨i, rfl, this.1, this.2.1, this.2.2⟩
def ij (l : List UInt8) : Value := .string ⟨l.toArray⟩
def spN (s : ByteArray) (k : Nat) : List (List UInt8) × List UInt8 := bM ([], []) (s.data.toList.take k)
theorem CL (s : ByteArray) : spN s s.size = bM ([], []) s.data.toList := by
 unfold spN
 congr 1
 exact List.take_of_length_le (by simp)
theorem py (s : ByteArray) (k : Nat) (h : k < s.size) : spN s (k + 1) = if s[k] = 44 then ((spN s k).1 ++ [(spN s k).2], []) else ((spN s k).1, (spN s k).2 ++ [s[k]]) := by
 have hl : k < s.data.toList.length := by simpa using h
 have e : s.data.toList.take (k + 1) = s.data.toList.take k ++ [s.data.toList[k]] := by rw [List.take_succ_eq_append_getElem hl]
 have e2 : s.data.toList[k] = s[k] := by
  have := lm s k h
  rw [List.getElem?_eq_getElem hl] at this
  exact Option.some.inj this
 unfold spN
 rw [e, qY, e2]
 show (if s[k] = 44 then bM _ [] else bM _ []) = _
 split <;> rfl
theorem yI (s : ByteArray) (k : Nat) (h : k ≤ s.size) : (spN s k).1.length ≤ k := by
 induction k with
 | zero => exact Nat.le_refl _
 | succ k ih =>
  have := ih (by omega)
  rw [py s k (by omega)]
  split
  ·simp; omega
  ·show (spN s k).1.length ≤ k + 1; omega
def frN (s : ByteArray) : Nat → Nat
 | 0 => 0
 | k + 1 => if gu s k = 44 then k + 1 else frN s k
theorem xu (s : ByteArray) (k : Nat) : frN s k ≤ k := by
 induction k with
 | zero => exact Nat.le_refl _
 | succ k ih => show (if gu s k = 44 then k + 1 else frN s k) ≤ k + 1; split <;> omega
theorem uB (s : ByteArray) (k : Nat) (h : k ≤ s.size) : s.extract (frN s k) k = ⟨(spN s k).2.toArray⟩ := by
 apply ByteArray.ext
 apply Array.toList_inj.1
 rw [ByteArray.data_extract, Array.toList_extract]
 show List.extract s.data.toList (frN s k) k = (spN s k).2.toArray.toList
 have e0 : (spN s k).2.toArray.toList = (spN s k).2 := by simp
 rw [e0, List.extract_eq_take_drop]
 induction k with
 | zero => rfl
 | succ k ih =>
  have hk : k < s.size := by omega
  have hb : gu s k = s[k].toNat := kq hk
  rw [py s k hk]
  show ((s.data.toList.drop (if gu s k = 44 then k + 1 else frN s k)).take (k + 1 - (if gu s k = 44 then k + 1 else frN s k))) = _
  by_cases c : s[k] = 44
  ·have cb : gu s k = 44 := by rw [hb, c]; rfl
   rw [if_pos cb, if_pos c]
   simp
  ·have cb : ¬ gu s k = 44 := by rw [hb]; intro e; exact c (UInt8.toNat.inj (e.trans rfl))
   rw [if_neg cb, if_neg c]
   have hf := xu s k
   have hl : k - frN s k < (s.data.toList.drop (frN s k)).length := by simp; omega
   have e1 : k + 1 - frN s k = (k - frN s k) + 1 := by omega
   rw [e1, List.take_succ_eq_append_getElem hl, ih (by omega) (by simp)]
   congr 1
   have hl2 : k < s.data.toList.length := by simpa using hk
   have : (s.data.toList.drop (frN s k))[k - frN s k] = s.data.toList[k] := by
    rw [List.getElem_drop]
    congr 1
    omega
   rw [this]
   have hx := lm s k hk
   rw [List.getElem?_eq_getElem hl2] at hx
   rw [Option.some.inj hx]
end
end Go.Proofs.YtlleafjdgblhcaaGreatDoor
