/- The program's search in a fence: goOn at its last place. -/
import Derived.Test.YtjdehbpgdplolaaDoorIeJ
import Derived.RangeFuncNested
import Derived.RangeFuncBound
import Derived.RangeFuncCalls
import Derived.RangeFuncLeaves
import Derived.Shelf.Abstract
import Derived.Shelf.RegionOpen
import Derived.WalkKit
import Derived.OwnWalkIn
import Derived.TacticsInMore
import Derived.LoopNIn
import Derived.LoopIn
import Derived.Maps.OwnIn
namespace Go.Proofs.YtjdehbpgdplolaaDoor
open Go.RowKit Go.Sort Go.Shelf
set_option linter.unusedVariables false
attribute [local go_sem] Oper.semAt_some

/-- a naming as it is handed to yield: the numbers, and where they lie -/
abbrev Nam := List Int × Nat
def namV (x : Nam) : Value := .slice (some ⟨x.2, 0, none⟩) x.1.length x.1.length
def namH (x : Nam) (w : World) : Prop := RowV w 2 x.2 (x.1.length * 1) (numV x.1)
/-- what a round keeps: all cells and maps but two boxes -/
structure KpX (p q : Nat) (W W' : World) : Prop where
  size : W.heap.size ≤ W'.heap.size
  os : W'.os = W.os
  tape : W'.tape = W.tape
  output : W'.output = W.output
  same : ∀ k o, W.heap[k]? = some o → (o.isCells = true ∨ o.isWalk = true) → k ≠ p → k ≠ q → W'.heap[k]? = some o
theorem KpX.trans {p q : Nat} {A B C : World} (h : KpX p q A B) (k : KpX p q B C) : KpX p q A C := ⟨Nat.le_trans h.size k.size, k.os.trans h.os, k.tape.trans h.tape, k.output.trans h.output, fun i o hi ho h1 h2 => k.same i o (h.same i o hi ho h1 h2) ho h1 h2⟩
theorem KpX.of_below {p q : Nat} {A B : World} (h : Below A.heap.size A B) : KpX p q A B := ⟨h.size, h.os, h.tape, h.output, fun i o hi _ _ _ => by rw [h.block i (Array.getElem?_eq_some_iff.1 hi).1]; exact hi⟩
/-- a round at every naming that lies there -/
def RoundOk (l p q : Nat) (J : List (List Int) → World → Prop) : Prop := ∀ m pre (x : Nam) W, J pre W → (∃ W0, J pre W0 ∧ W0.heap.size ≤ x.2) → namH x W → x.1.length ≤ 6 → YieldAt Fence.wide m Tryd.prog l #[namV x] W fun e W' => e = .returned (.bool true) ∧ J (pre ++ [x.1]) W' ∧ KpX p q W W'

set_option maxHeartbeats 4000000 in
set_option maxRecDepth 100000 in
theorem goOn_leaf (L : List St) (S : List D3) (ids : List Int) (ar br : Option Addr) (cr dr b N l p q n : Nat) (J : List (List Int) → World → Prop) (pre : List (List Int)) (w : World) (hm : S.length ≤ 6) (hl : ids.length = S.length) (hN : NamedAt w b N L ids)
    (hJ : J pre w) (hJa : ∀ W W', J pre W → Below W.heap.size W W' → J pre W') (hY : RoundOk l p q J) :
    CallsIn Fence.wide n Tryd.prog 44 #[.agg #[.slice ar L.length cr, .slice br S.length dr, .map (some b)], .int .i64 (ids.length : Int), .func (.yield l) #[] #[]] w fun e W' => e = .returned (.bool true) ∧ J (pre ++ [ids]) W' ∧ KpX p q w W' := by
  have B0 := below1 w (.cells #[.slice ar L.length cr, .slice br S.length dr, .map (some b)] 78)
  have HB := hide B0
  have HJ := hide (hJa _ _ hJ B0)
  have cI := hide (fun (k : Nat) => callsIn_wide (n := k) |>.2 (ids_any L ids S.length ar br L.length cr dr b N _ hm (hN.below B0)))
  have HY := hide hY
  have HJa := hide hJa
  clear B0 hN hJ hY hJa
  rw [hl]
  refine callsIn_of_wp Tryd.func44 rfl trivial ?_ rfl
  simp only [Tryd.ntmps44, List.size_toArray, List.length_cons, List.length_nil, Nat.reduceAdd, Nat.reduceSub, Array.replicate_succ, Array.replicate_zero, List.push_toArray, List.append_toArray, List.nil_append, List.cons_append]
  gi_wp2
  refine ⟨trivial, fun h => (by cases h), ?_⟩
  refine (unhide cI _).mono ?_
  rintro e w1 ⟨rfl, hrow, hx⟩
  have hsz : (w.alloc (.cells #[.slice ar L.length cr, .slice br S.length dr, .map (some b)] 78)).heap.size = w.heap.size + 1 := by simp
  rw [hsz] at hrow ⊢
  have HY1 := unhide HY (n - 1) pre (ids, w.heap.size + 1 + 1) w1 (unhide HJa _ _ (unhide HJ) hx) ⟨_, unhide HJ, by simp⟩ (by unfold namH; dsimp only; rw [hl]; exact hrow) (by dsimp only; omega)
  unfold namV at HY1
  dsimp only at HY1
  rw [hl] at HY1
  have HK := hide (KpX.of_below (p := p) (q := q) (below_call (unhide HB) hx))
  clear hrow hx hsz cI HY HJa HJ HB
  obtain ⟨fn, tmps, assign, body, hy, hR⟩ := HY1
  gi_wp2
  refine ⟨fun h => (by cases h), ?_⟩
  refine hR.mono ?_
  rintro e w2 ⟨rfl, hJ2, hk2⟩
  have HJ2 := hide hJ2
  have HK2 := hide ((unhide HK).trans hk2)
  clear hJ2 hk2 hR hy HK
  gi_wp2
  go_ret
  exact ⟨rfl, unhide HJ2, unhide HK2⟩
end Go.Proofs.YtjdehbpgdplolaaDoor
