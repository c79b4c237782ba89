/- The program's search: who is named stands in a map; ids. -/
import Derived.Test.YtjdehbpgdplolaaDoorIeF
import Derived.Maps.OwnSet
import Derived.Maps.Views
namespace Go.Proofs.YtjdehbpgdplolaaDoor
open Go.RowKit Go.Sort
set_option linter.unusedVariables false

def stV (s : St) : Value := .agg #[.int .i64 s.1, .int .i64 s.2.1, .int .i64 s.2.2.1, .int .i64 s.2.2.2]
def starD (s : St) : DataW Unit := .agg [.lit (.int .i64 s.1), .lit (.int .i64 s.2.1), .lit (.int .i64 s.2.2.1), .lit (.int .i64 s.2.2.2)]
/-- how a star within the map reads -/
def starE (v : Value) : Option (DataW Unit × List MemPlace) := match v with
  | .agg ⟨[.int .i64 a, .int .i64 b, .int .i64 c, .int .i64 d]⟩ => some (starD (a, b, c, d), [])
  | _ => none
theorem starE_mk (s : St) : starE (stV s) = some (starD s, []) := rfl
theorem starE_inv {v : Value} {s : St} {ps : List MemPlace} (h : starE v = some (starD s, ps)) : v = stV s := by
  unfold starE at h
  split at h
  · simp only [Option.some.injEq, Prod.mk.injEq, starD, DataW.agg.injEq, List.cons.injEq, DataW.lit.injEq, Lit.int.injEq, true_and, and_true] at h
    obtain ⟨⟨h1, h2, h3, h4⟩, _⟩ := h
    subst h1 h2 h3 h4
    rfl
  · cases h
def zeroSt : St := (0, 0, 0, 0)
/-- who is named at place i -/
def nameSt (L : List St) (ids : List Int) (i : Nat) : St := if ids.getD i 0 ≠ 0 then (ids.getD i 0, atV L L.length (ids.getD i 0)) else zeroSt
def MapIs (D : DataW Unit) (L : List St) (ids : List Int) : Prop := ∀ i : Nat, i < 7 → Maps.has D (.int .i64 (i : Int)) = decide (ids.getD i 0 ≠ 0) ∧ D.atKey (.int .i64 (i : Int)) (starD zeroSt) = starD (nameSt L ids i)
/-- block b is the map of who is named -/
def NamedAt (w : World) (b n : Nat) (L : List St) (ids : List Int) : Prop := ∃ D, w.ownsMap Tryd.prog 3 starE b n D ∧ MapIs D L ids
theorem wf_nat (i : Nat) (h : i < 7) : (Lit.int .i64 (i : Int)).wf = true := by
  rcases (by omega : i = 0 ∨ i = 1 ∨ i = 2 ∨ i = 3 ∨ i = 4 ∨ i = 5 ∨ i = 6) with rfl | rfl | rfl | rfl | rfl | rfl | rfl <;> decide
theorem keyI (i : Nat) (h : i < 7) : keyOf Tryd.prog 3 (.int .i64 (i : Int)) = some (.int .i64 (i : Int)) := Maps.keyOf_int_mk Tryd.underlying3 (wf_nat i h)
theorem zeroStar (w : World) : (zeroValue 46).run Tryd.prog w = .ok (stV zeroSt) w := by kernel_rfl
/-- what is looked up at place i -/
theorem NamedAt.look {w : World} {b n : Nat} {L : List St} {ids : List Int} (h : NamedAt w b n L ids) (i : Nat) (hi : i < 7) : (Instr.lookup 76 (.map (some b)) (.int .i64 (i : Int)) false).run Tryd.prog w = .ok (stV (nameSt L ids i)) w := by
  obtain ⟨D, hD, hM⟩ := h
  obtain ⟨v, ps, hr, hv⟩ := hD.lookup (Maps.int_keyed Tryd.underlying3) Tryd.underlying76 (zeroStar w) (starE_mk zeroSt) (keyI i hi)
  rw [(hM i hi).2] at hv
  rw [starE_inv hv] at hr
  exact hr
theorem NamedAt.lookOk {w : World} {b n : Nat} {L : List St} {ids : List Int} (h : NamedAt w b n L ids) (i : Nat) (hi : i < 7) : (Instr.lookup 76 (.map (some b)) (.int .i64 (i : Int)) true).run Tryd.prog w = .ok (.tuple #[stV (nameSt L ids i), .bool (decide (ids.getD i 0 ≠ 0))]) w := by
  obtain ⟨D, hD, hM⟩ := h
  obtain ⟨v, ps, hr, hv⟩ := hD.look_ok (Maps.int_keyed Tryd.underlying3) Tryd.underlying76 (zeroStar w) (starE_mk zeroSt) (keyI i hi)
  rw [(hM i hi).2] at hv
  rw [starE_inv hv, (hM i hi).1] at hr
  exact hr
theorem NamedAt.kept {w w' : World} {b n : Nat} {L : List St} {ids : List Int} {row : Option Nat} (h : NamedAt w b n L ids) (hg : w.grownBy w' row) (hne : some b ≠ row) : NamedAt w' b n L ids := by
  obtain ⟨D, hD, hM⟩ := h
  exact ⟨D, hD.kept hg hne, hM⟩
end Go.Proofs.YtjdehbpgdplolaaDoor
