/- A list of numbers that came in, as it lies in memory. -/
import Derived.Test.YtjdehbpgdplolaaDoorL7A
import Derived.Test.YtjdehbpgdplolaaDoorIdW
import Derived.WideShapes
namespace Go.Proofs.YtjdehbpgdplolaaDoor
open Go.RowKit Go.Deep Go.ChangeShapes
set_option linter.unusedVariables false

theorem nums_range (n : Nat) (f : Nat → Int) {i : Nat} (h : i < n) : ((List.range n).map f).getD i 0 = f i := by
  rw [List.getD_eq_getElem?_getD, List.getElem?_map, List.getElem?_range h]
  rfl
set_option maxRecDepth 100000 in
theorem open_nums {H : Type} {enc : TypeId × Value → H} {w : World} {fuel : Nat} {a : Option Addr} {len cap : Nat} {x : DataW H × List MemPlace}
    (h : DataW.trod enc Tryd.prog w 0 (fun _ => true) true fuel 26 [.slice a len cap] = some x) : ∃ L : List Int, L.length = len ∧ Nums w a L len ∧ len ≤ maxLen := by
  rcases open_slice Tryd.underlying26 h with ⟨hcs, _⟩ | ⟨a', l, c, m, n, D, Pl, hcs, _, hl, hm, hmm, _, hel⟩
  · simp at hcs
    obtain ⟨rfl, rfl, rfl⟩ := hcs
    exact ⟨[], rfl, .inl rfl, Nat.zero_le _⟩
  · simp at hcs
    obtain ⟨rfl, rfl, rfl⟩ := hcs
    have hlm : len ≤ m := by rw [hmm]; simp; exact hl
    have each : ∀ i, i < len → ∃ z : Int, w.cell? (a'.add i) = some (.int .i64 z) := by
      intro i hi
      obtain ⟨cs, h1, h2⟩ := hel i (by omega)
      rw [cellsDI] at h1
      obtain ⟨_, hlen, hcell⟩ := World.cells?_some h1
      match cs, hlen with
      | [v1], _ =>
        obtain ⟨i1, e1, _, _⟩ := DataW.trod_int Tryd.underlying2 h2
        simp at e1
        subst e1
        have c0 := hcell 0 (by omega)
        rw [add_add] at c0
        exact ⟨i1, by simpa using c0⟩
    obtain ⟨f, hf⟩ := choose_lt each
    refine ⟨(List.range len).map f, by simp, ?_, by omega⟩
    rcases Nat.eq_zero_or_pos len with h0 | h0
    · exact .inl h0
    · have hs : (a'.add 0).spot = none := spot_noneD (hf 0 h0)
      have hb : (a'.add 0).block < w.heap.size := World.block_lt_of_cell? w _ (hf 0 h0)
      obtain ⟨bx, ox, sx⟩ := a'
      have hs' : sx = none := by simpa [Addr.add] using hs
      subst hs'
      have hA : ∀ j, (⟨bx, ox, none⟩ : Addr).add j = ⟨bx, ox + j, none⟩ := fun j => by unfold Addr.add; split <;> simp_all
      refine .inr ⟨bx, ox, rfl, by simpa [Addr.add] using hb, fun i hi => ?_⟩
      have c0 := hf i hi
      rw [hA] at c0
      rw [nums_range len f hi]
      exact c0
end Go.Proofs.YtjdehbpgdplolaaDoor
