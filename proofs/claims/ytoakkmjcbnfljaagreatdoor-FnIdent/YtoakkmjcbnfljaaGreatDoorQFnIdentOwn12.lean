/- Several texts in one: SeenA. -/
import Derived.Test.YtoakkmjcbnfljaaGreatDoorQFnIdentOwn3
import Derived.Test.YtoakkmjcbnfljaaGreatDoorQFnIdentOwn5
namespace Go.Proofs.YtoakkmjcbnfljaaGreatDoor
set_option linter.unusedVariables false
set_option linter.unusedSimpArgs false
set_option maxRecDepth 100000
set_option maxHeartbeats 8000000
section
open Go.RowKit Go.Sort
def oh (x y z cone : Int) : Bool := decide (0 < z) && decide (wrap64 (wrap64 (cone * cone) * bf x y z x y z) ≤ wrap64 (wrap64 (10000 * z) * z))
def ql (s : St) (a b c d cone : Int) : Bool := oh (apX a b c d s.2.1 s.2.2.1 s.2.2.2) (apY a b c d s.2.1 s.2.2.1 s.2.2.2) (apZ a b c d s.2.1 s.2.2.1 s.2.2.2) cone
def bw (L : List St) (a b c d cone : Int) : Nat → List Int
 | 0 => []
 | k + 1 => if ql (stA L k) a b c d cone = true then bw L a b c d cone k ++ [(stA L k).1] else bw L a b c d cone k
def fu (L : List St) (a b c d cone : Int) : List Int := if (aL L && aC a b c d && (decide (0 ≤ cone) && decide (cone ≤ 100))) = true then bw L a b c d cone L.length else []
theorem ly (L : List St) (a b c d cone : Int) (k : Nat) : (bw L a b c d cone k).length ≤ k := by
 induction k with
 | zero => exact Nat.le_refl _
 | succ k ih =>
  unfold bw
  split
  ·simp; exact ih
  ·omega
abbrev lR (xs : List Int) : List Value := xs.map (Value.int .i64)
theorem sj : (Tryz.prog.info? 2).map (fun i => (i.zero, i.size, i.bytes)) = some (some (.int .i64 0), 1, 8) := by kernel_rfl
theorem World.ownsRow_weak {w : World} {B : Nat} {t : TypeId} {v : Value} {n m : Nat} {xs : List Value} (h : w.ownsRow (B + 1) t m v n xs) : w.ownsRow B t m v n xs := by
 obtain ⟨h1, h2⟩ := h
 refine ⟨h1, ?_⟩
 rcases h2 with h2 | ⟨g, cap, cur, e, hb, r⟩
 ·exact .inl h2
 ·exact .inr ⟨g, cap, cur, e, by omega, r⟩
theorem World.ownsRow_less {w : World} {B B' : Nat} {t : TypeId} {v : Value} {n m : Nat} {xs : List Value} (h : w.ownsRow B t m v n xs) (hb : B' ≤ B) : w.ownsRow B' t m v n xs := by
 obtain ⟨h1, h2⟩ := h
 refine ⟨h1, ?_⟩
 rcases h2 with h2 | ⟨g, cap, cur, e, hg, r⟩
 ·exact .inl h2
 ·exact .inr ⟨g, cap, cur, e, by omega, r⟩
theorem kW {B : Nat} {w w1 w2 : World} {v : Value} {t : TypeId} {n m : Nat} {xs : List Value} (h : Below B w w1) (hB : B ≤ w1.heap.size) (ho : w1.ownsRow B t m v n xs) (hg : w1.grownBy w2 v.ownBlock) : Below B w w2 :=
 h.trans ⟨hg.os, hg.tape, hg.output, hg.size, fun k hk => hg.block k (by omega) (fun e => by have := (ho.lt k e.symm).1; omega)⟩
end
end Go.Proofs.YtoakkmjcbnfljaaGreatDoor
