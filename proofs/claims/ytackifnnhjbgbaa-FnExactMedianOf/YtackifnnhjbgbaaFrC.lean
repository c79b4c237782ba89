/- FrameLess: the specification's and the program's. -/
import Derived.Test.YtackifnnhjbgbaaFrB
import Derived.Test.YtackifnnhjbgbaaBytes
import Derived.Laws.BytesArg
import Derived.BigRegion
namespace Go.Proofs.Ytackifnnhjbgbaa
open Go.RowKit Go.Sort
set_option linter.unusedVariables false

/-- block b is the row cs, none frozen -/
def Blk (w : World) (b : Nat) (cs : List Value) (t : TypeId) : Prop := w.heap[b]? = some (.cells cs.toArray t (0, 0))
theorem Blk.lt {w : World} {b : Nat} {cs : List Value} {t : TypeId} (h : Blk w b cs t) : b < w.heap.size := (Array.getElem?_eq_some_iff.1 h).1
theorem Blk.kept {w w' : World} {b : Nat} {cs : List Value} {t : TypeId} (h : Blk w b cs t) (hB : Below w.heap.size w w') : Blk w' b cs t := (hB.block b h.lt).trans h
theorem blk_new (w : World) (cs : List Value) (t : TypeId) : Blk (w.alloc (.cells cs.toArray t)) w.heap.size cs t := heap_alloc_new w _
theorem Blk.alloc {w : World} {b : Nat} {cs : List Value} {t : TypeId} (h : Blk w b cs t) (o : Obj) : Blk (w.alloc o) b cs t := h.kept (below1 _ _)
theorem Blk.cell {w : World} {b : Nat} {cs : List Value} {t : TypeId} (h : Blk w b cs t) (i : Nat) (v : Value) (hv : cs[i]? = some v) : w.cell? ⟨b, i, none⟩ = some v := by
  rw [cell_of_row w b i _ _ _ h]; simpa using hv
theorem Blk.free {w : World} {b : Nat} {cs : List Value} {t : TypeId} (h : Blk w b cs t) (i : Nat) : w.frozen? ⟨b, i, none⟩ = false := frozen_of_row w b i _ _ h
theorem Blk.set {w : World} {b : Nat} {cs : List Value} {t : TypeId} (h : Blk w b cs t) (i : Nat) (v : Value) : Blk (w.setCell ⟨b, i, none⟩ v) b (cs.set i v) t := by
  have := heap_setCell_same w b i _ _ v h
  unfold Blk
  rw [this]
  simp
theorem Blk.other {w : World} {b : Nat} {cs : List Value} {t : TypeId} (h : Blk w b cs t) (a : Addr) (v : Value) (hne : b ≠ a.block) : Blk (w.setCell a v) b cs t := by
  unfold Blk
  rw [heap_setCell_other w a b v hne]
  exact h
theorem Blk.drewn {w : World} {b : Nat} {cs : List Value} {t : TypeId} (h : Blk w b cs t) : Blk w.drew b cs t := h
/-- the first n cells of block b are the bytes f, and may be written -/
def BRow (w : World) (b n : Nat) (f : Nat → Int) : Prop := ∀ j, j < n → w.cell? ⟨b, j, none⟩ = some (.int .u8 (f j)) ∧ w.frozen? ⟨b, j, none⟩ = false
theorem BRow.kept {w w' : World} {b n : Nat} {f : Nat → Int} (h : BRow w b n f) (hb : b < w.heap.size) (hB : Below w.heap.size w w') : BRow w' b n f := fun j hj =>
  ⟨by rw [hB.cell (p := ⟨b, j, none⟩) hb]; exact (h j hj).1, by rw [hB.frozen (p := ⟨b, j, none⟩) hb]; exact (h j hj).2⟩
theorem BRow.drewn {w : World} {b n : Nat} {f : Nat → Int} (h : BRow w b n f) : BRow w.drew b n f := h
theorem BRow.congr {w : World} {b n : Nat} {f f' : Nat → Int} (h : BRow w b n f) (e : ∀ j, j < n → f j = f' j) : BRow w b n f' := fun j hj => ⟨by rw [(h j hj).1, e j hj], (h j hj).2⟩
theorem BRow.set {w : World} {b n : Nat} {f : Nat → Int} (h : BRow w b n f) (i : Nat) (hi : i < n) (v : Int) : BRow (w.setCell ⟨b, i, none⟩ (.int .u8 v)) b n (fun j => if j = i then v else f j) := fun j hj => by
  refine ⟨?_, ?_⟩
  · show _ = some (Value.int .u8 (if j = i then v else f j))
    by_cases e : j = i
    · subst e
      rw [if_pos rfl, World.cell?_setCell_same _ _ _ (h j hj).1]
    · rw [if_neg e, World.cell?_setCell_other _ _ _ _ (fun h => e (by simpa using (congrArg Addr.off h).symm)), (h j hj).1]
  · rw [← (h j hj).2]
    simp
def lessI (f d : ByteArray) (j : Nat) : Int := if byteN f j < byteN d j then 0 else (byteN f j : Int) - (byteN d j : Int)
def lessS (f d : ByteArray) : ByteArray := strOfNums ((List.range f.size).map (lessI f d))
theorem BRow.conv {w : World} {b : Nat} {f d : ByteArray} (h : BRow w b f.size (lessI f d)) (cap : Nat) :
    (convert 29 9 (.slice (some ⟨b, 0, none⟩) f.size cap)).run Try.prog w = .ok (.string (lessS f d)) w := by
  refine run_convert_bytes_arg (P := Try.prog) _ 29 5 Try.underlying29 Try.underlying5 b 0 f.size cap ((List.range f.size).map (lessI f d)) (by simp) ?_ 9 Try.underlying9
  intro i hi
  rw [Nat.zero_add, (h i hi).1]
  congr 2
  rw [List.getD, List.getElem?_map, List.getElem?_range hi]
  rfl
def bothB (w1 h1 : Int) (f : ByteArray) (w2 h2 : Int) (d : ByteArray) : Bool := frameB w1 h1 f && frameB w2 h2 d && decide (w1 = w2) && decide (h1 = h2)
def lessV (w1 h1 : Int) (f : ByteArray) (w2 h2 : Int) (d : ByteArray) : Value := if bothB w1 h1 f w2 h2 d = true then .agg #[.int .i64 w1, .int .i64 h1, .string (lessS f d), .int .i64 0] else .agg #[.int .i64 0, .int .i64 0, .string ⟨#[]⟩, .int .i64 1]
end Go.Proofs.Ytackifnnhjbgbaa
