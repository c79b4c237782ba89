/- A list of directions that came in, as it lies in memory. -/
import Derived.Test.YtnffnjljjecphaaDoorIdA
import Derived.Test.YtnffnjljjecphaaDoorRows
import Derived.Deep.Slices
import Derived.Deep.Strs
import Derived.LaidHandle
import Derived.LaidMore
import Derived.ProofKit
namespace Go.Proofs.YtnffnjljjecphaaDoor
open Go.RowKit Go.Deep Go.ChangeShapes
set_option linter.unusedVariables false

theorem vA_range (n : Nat) (f : Nat → D3) {i : Nat} (h : i < n) : vA ((List.range n).map f) i = f i := by
  unfold vA
  rw [List.getD_eq_getElem?_getD, List.getElem?_map, List.getElem?_range h]
  rfl
theorem cellsDV : Tryd.prog.cellsOf 101 = 3 := by kernel_rfl
theorem cellsDI : Tryd.prog.cellsOf 2 = 1 := by kernel_rfl
theorem spot_noneD {w : World} {x : Addr} {v : Value} (h : w.cell? x = some v) : x.spot = none := by
  cases hs : x.spot with
  | none => rfl
  | some k =>
    exfalso
    unfold World.cell? at h
    rw [hs] at h
    revert h
    split <;> simp
set_option maxRecDepth 100000 in
theorem open_dirs {H : Type} {enc : TypeId × Value → H} {w : World} {fuel : Nat} {a : Option Addr} {len cap : Nat} {x : DataW H × List MemPlace}
    (h : DataW.trod enc Tryd.prog w 0 (fun _ => true) true fuel 24 [.slice a len cap] = some x) : ∃ L : List D3, L.length = len ∧ Dirs w a L len ∧ len ≤ maxLen := by
  rcases open_slice Tryd.underlying24 h with ⟨hcs, _⟩ | ⟨a', l, c, m, n, D, Pl, hcs, _, hl, hm, hmm, _, hel⟩
  · simp at hcs
    obtain ⟨rfl, rfl, rfl⟩ := hcs
    exact ⟨[], rfl, .inl rfl, Nat.zero_le _⟩
  · simp at hcs
    obtain ⟨rfl, rfl, rfl⟩ := hcs
    have hlm : len ≤ m := by rw [hmm]; simp; exact hl
    have each : ∀ i, i < len → ∃ s : D3, w.cell? (a'.add (i * 3)) = some (.int .i64 s.1) ∧ w.cell? (a'.add (i * 3 + 1)) = some (.int .i64 s.2.1) ∧ w.cell? (a'.add (i * 3 + 2)) = some (.int .i64 s.2.2) := by
      intro i hi
      obtain ⟨cs, h1, h2⟩ := hel i (by omega)
      rw [cellsDV] at h1
      obtain ⟨_, hlen, hcell⟩ := World.cells?_some h1
      match cs, hlen with
      | [v1, v2, v3], _ =>
        obtain ⟨z0, z1, z2, n2, _, _, k0, k1, k2⟩ := trod_struct3 Tryd.underlying101 h2
        have k0' : DataW.trod enc Tryd.prog w 0 (fun _ => true) true n2 2 (([v1, v2, v3].drop 0).take (Tryd.prog.cellsOf 2)) = some z0 := k0
        have k1' : DataW.trod enc Tryd.prog w 0 (fun _ => true) true n2 2 (([v1, v2, v3].drop 1).take (Tryd.prog.cellsOf 2)) = some z1 := k1
        have k2' : DataW.trod enc Tryd.prog w 0 (fun _ => true) true n2 2 (([v1, v2, v3].drop 2).take (Tryd.prog.cellsOf 2)) = some z2 := k2
        rw [cellsDI] at k0' k1' k2'
        obtain ⟨i1, e1, _, _⟩ := DataW.trod_int Tryd.underlying2 k0'
        obtain ⟨i2, e2, _, _⟩ := DataW.trod_int Tryd.underlying2 k1'
        obtain ⟨i3, e3, _, _⟩ := DataW.trod_int Tryd.underlying2 k2'
        simp at e1 e2 e3
        subst e1 e2 e3
        have c0 := hcell 0 (by omega)
        have c1 := hcell 1 (by omega)
        have c2 := hcell 2 (by omega)
        rw [add_add] at c0 c1 c2
        exact ⟨(i1, i2, i3), by simpa using c0, by simpa using c1, by simpa using c2⟩
    obtain ⟨f, hf⟩ := choose_lt each
    refine ⟨(List.range len).map f, by simp, ?_, by omega⟩
    rcases Nat.eq_zero_or_pos len with h0 | h0
    · exact .inl h0
    · have hs : (a'.add (0 * 3)).spot = none := spot_noneD (hf 0 h0).1
      have hb : (a'.add (0 * 3)).block < w.heap.size := World.block_lt_of_cell? w _ (hf 0 h0).1
      obtain ⟨bx, ox, sx⟩ := a'
      have hs' : sx = none := by simpa [Addr.add] using hs
      subst hs'
      have hA : ∀ j, (⟨bx, ox, none⟩ : Addr).add j = ⟨bx, ox + j, none⟩ := fun j => by unfold Addr.add; split <;> simp_all
      refine .inr ⟨bx, ox, rfl, by simpa [Addr.add] using hb, fun i hi => ?_⟩
      obtain ⟨c0, c1, c2⟩ := hf i hi
      rw [hA] at c0 c1 c2
      rw [vA_range len f hi]
      exact ⟨c0, by rw [Nat.add_assoc]; exact c1, by rw [Nat.add_assoc]; exact c2⟩
end Go.Proofs.YtnffnjljjecphaaDoor
