/- MatchAt: the program's. -/
import Derived.Test.YtjdehbpgdplolaaDoorMaM
import Derived.Test.YtjdehbpgdplolaaDoorIdA
import Derived.Test.YtjdehbpgdplolaaDoorSkyD
import Derived.Test.YtjdehbpgdplolaaDoorTurnF
import Derived.Test.YtjdehbpgdplolaaDoorRowV
import Derived.OwnWalk
import Derived.Laws.OwnMore
namespace Go.Proofs.YtjdehbpgdplolaaDoor
open Go.RowKit Go.Sort
set_option linter.unusedVariables false

theorem info_i64 : (Tryd.prog.info? 2).map (fun i => (i.zero, i.size, i.bytes)) = some (some (.int .i64 0), 1, 8) := by kernel_rfl
theorem RowV.made {w' : World} {B b n : Nat} {v : Value} {t : TypeId} {c : Nat} {xs : List Value} {f : Nat → Value} (h : w'.ownsRow B t c (.slice (some ⟨b, 0, none⟩) n n) n xs) (hf : ∀ j, j < n * c → xs[j]? = some (f j)) : RowV w' t b (n * c) f := by
  rcases h.2 with ⟨h', _⟩ | ⟨g, cap, cur, hv, _, hg, _, _, _, htake⟩
  · simp at h'
  · simp only [Value.slice.injEq, Option.some.injEq, Addr.mk.injEq, and_true, true_and] at hv
    obtain ⟨rfl, rfl⟩ := hv
    refine ⟨cur, hg, fun j hj => ?_⟩
    have e := hf j hj
    rw [← htake, List.getElem?_take, if_pos hj] at e
    simpa using e
theorem below_grownN {w w' : World} (h : w.grownBy w' none) : Below w.heap.size w w' := ⟨h.os, h.tape, h.output, h.size, fun k hk => h.block k hk (by simp)⟩
theorem TurnAt.same {w w' : World} {b : Nat} {p q r s : Int} (h : TurnAt w b p q r s) (e : w'.heap[b]? = w.heap[b]?) : TurnAt w' b p q r s := by
  obtain ⟨h0, h1, h2, h3⟩ := h
  exact ⟨(World.cell?_of_block (a := ⟨b, _, none⟩) e).trans h0, (World.cell?_of_block (a := ⟨b, _, none⟩) e).trans h1, (World.cell?_of_block (a := ⟨b, _, none⟩) e).trans h2, (World.cell?_of_block (a := ⟨b, _, none⟩) e).trans h3⟩
/-- what lies in memory while the spots are gone through -/
structure MSt (w wr : World) (g m : Nat) (a b c d : Int) (f : Nat → Value) : Prop where
  row : RowV wr 2 g (m * 1) f
  tur : TurnAt wr w.heap.size a b c d
  bel : Below w.heap.size w wr
  lo : w.heap.size < g
theorem MSt.kept {w wr wy : World} {g m : Nat} {a b c d : Int} {f : Nat → Value} (h : MSt w wr g m a b c d f) (hB : Below wr.heap.size wr wy) : MSt w wy g m a b c d f :=
  ⟨h.row.kept hB, h.tur.kept h.tur.lt hB, below_call h.bel hB, h.lo⟩
theorem MSt.set {w wr : World} {g m : Nat} {a b c d : Int} {f : Nat → Value} (h : MSt w wr g m a b c d f) (i : Nat) (v : Value) : MSt w (wr.setCell ⟨g, i, none⟩ v) g m a b c d (fun j => if j = i then v else f j) :=
  ⟨h.row.set i v, h.tur.same (heap_setCell_other wr ⟨g, i, none⟩ w.heap.size v (by have := h.lo; show w.heap.size ≠ g; omega)), h.bel.setCell (by have := h.lo; show w.heap.size ≤ g; omega) _, h.lo⟩
theorem MSt.congr {w wr : World} {g m : Nat} {a b c d : Int} {f f' : Nat → Value} (h : MSt w wr g m a b c d f) (e : ∀ j, j < m → f j = f' j) : MSt w wr g m a b c d f' := ⟨h.row.congr (fun j hj => e j (by omega)), h.tur, h.bel, h.lo⟩
/-- the row while spot i is held against the first k stars -/
def rowM (S : List D3) (fin : D3 → Int) (i : Nat) (x : Int) (j : Nat) : Value := .int .i64 (if j < i then fin (vA S j) else if j = i then x else 0)
end Go.Proofs.YtjdehbpgdplolaaDoor
