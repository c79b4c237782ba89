/- The program's search: a node of goOn. -/
import Derived.Test.YtjdehbpgdplolaaDoorIeL
import Derived.BigRegionIn
namespace Go.Proofs.YtjdehbpgdplolaaDoor
open Go.RowKit Go.Sort Go.Shelf
set_option linter.unusedVariables false
attribute [local go_sem] Oper.semAt_some

/-- what goOn keeps: all cells and maps but the two boxes and its own map -/
structure KpM (b p q : Nat) (W W' : World) : Prop where
  size : W.heap.size ≤ W'.heap.size
  os : W'.os = W.os
  tape : W'.tape = W.tape
  output : W'.output = W.output
  same : ∀ k o, W.heap[k]? = some o → (o.isCells = true ∨ o.isWalk = true) → k ≠ b → k ≠ p → k ≠ q → W'.heap[k]? = some o
theorem KpM.trans {b p q : Nat} {A B C : World} (h : KpM b p q A B) (k : KpM b p q B C) : KpM b p q A C := ⟨Nat.le_trans h.size k.size, k.os.trans h.os, k.tape.trans h.tape, k.output.trans h.output, fun i o hi ho h0 h1 h2 => k.same i o (h.same i o hi ho h0 h1 h2) ho h0 h1 h2⟩
theorem KpX.toM {b p q : Nat} {A B : World} (h : KpX p q A B) : KpM b p q A B := ⟨h.size, h.os, h.tape, h.output, fun i o hi ho _ h1 h2 => h.same i o hi ho h1 h2⟩
theorem KpM.of_grown {b p q : Nat} {A B : World} (h : A.grownBy B (some b)) : KpM b p q A B := ⟨h.size, h.os, h.tape, h.output, fun i o hi _ h0 _ _ => by rw [h.block i (Array.getElem?_eq_some_iff.1 hi).1 (fun e => h0 (Option.some.inj e))]; exact hi⟩
theorem KpM.of_below {b p q : Nat} {A B : World} (h : Below A.heap.size A B) : KpM b p q A B := KpM.of_grown (grownB1 h)
theorem KpM.cell {b p q : Nat} {A B : World} (h : KpM b p q A B) {a : Addr} {v : Value} (hc : A.cell? a = some v) (h0 : a.block ≠ b) (h1 : a.block ≠ p) (h2 : a.block ≠ q) : B.cell? a = some v := by
  obtain ⟨o, ho, hi⟩ := cells_of_cell hc
  have e := h.same a.block o ho (.inl hi) h0 h1 h2
  rw [← hc]
  exact World.cell?_of_block (e.trans ho.symm)
def Apart3 (a : Option Addr) (b p q : Nat) : Prop := ∀ y, a = some y → y.block ≠ b ∧ y.block ≠ p ∧ y.block ≠ q
theorem starsM {b p q : Nat} {w w' : World} {a : Option Addr} {L : List St} {n : Nat} (h : Stars w a L n) (hg : KpM b p q w w') (hne : Apart3 a b p q) : Stars w' a L n := by
  rcases h with h | ⟨c, o, rfl, hb, hc⟩
  · exact .inl h
  · obtain ⟨n0, n1, n2⟩ := hne _ rfl
    refine .inr ⟨c, o, rfl, Nat.lt_of_lt_of_le hb hg.size, fun i hi => ?_⟩
    obtain ⟨c0, c1, c2, c3⟩ := hc i hi
    exact ⟨hg.cell c0 n0 n1 n2, hg.cell c1 n0 n1 n2, hg.cell c2 n0 n1 n2, hg.cell c3 n0 n1 n2⟩
theorem dirsM {b p q : Nat} {w w' : World} {a : Option Addr} {L : List D3} {n : Nat} (h : Dirs w a L n) (hg : KpM b p q w w') (hne : Apart3 a b p q) : Dirs w' a L n := by
  rcases h with h | ⟨c, o, rfl, hb, hc⟩
  · exact .inl h
  · obtain ⟨n0, n1, n2⟩ := hne _ rfl
    refine .inr ⟨c, o, rfl, Nat.lt_of_lt_of_le hb hg.size, fun i hi => ?_⟩
    obtain ⟨c0, c1, c2⟩ := hc i hi
    exact ⟨hg.cell c0 n0 n1 n2, hg.cell c1 n0 n1 n2, hg.cell c2 n0 n1 n2⟩
theorem sightsM {b p q : Nat} {w w' : World} {a : Option Addr} {A : List Sg} {n : Nat} (h : Sights w a A n) (hg : KpM b p q w w') (hne : Apart3 a b p q) : Sights w' a A n := by
  rcases h with h | ⟨c, o, rfl, hb, hc⟩
  · exact .inl h
  · obtain ⟨n0, n1, n2⟩ := hne _ rfl
    refine .inr ⟨c, o, rfl, Nat.lt_of_lt_of_le hb hg.size, fun i hi => ?_⟩
    obtain ⟨c0, c1, c2, c3, c4, c5, c6⟩ := hc i hi
    exact ⟨hg.cell c0 n0 n1 n2, hg.cell c1 n0 n1 n2, hg.cell c2 n0 n1 n2, hg.cell c3 n0 n1 n2, hg.cell c4 n0 n1 n2, hg.cell c5 n0 n1 n2, hg.cell c6 n0 n1 n2⟩
theorem NamedAt.isMap {w : World} {b n : Nat} {L : List St} {ids : List Int} (h : NamedAt w b n L ids) : ∃ es c, w.heap[b]? = some (.map es c) := by
  obtain ⟨D, ⟨es, c, hh, _⟩, _⟩ := h
  exact ⟨es, c, hh⟩
/-- J abides goOn's own steps -/
def JAb (b : Nat) (J : List (List Int) → World → Prop) : Prop := ∀ pre W W', J pre W → (∃ es c, W.heap[b]? = some (.map es c)) → W.grownBy W' (some b) → J pre W'
def GoOk (L : List St) (S : List D3) (ar br : Option Addr) (cr dr b l p q : Nat) (J : List (List Int) → World → Prop) (r : Nat) : Prop := ∀ (ids : List Int) (pre : List (List Int)) (N n : Nat) (w : World), ids.length + r = S.length → N + 13 ^ r ≤ 100000000 → NamedAt w b N L ids → Stars w ar L L.length → Dirs w br S S.length → p < w.heap.size → q < w.heap.size → J pre w →
    CallsIn Fence.wide n Tryd.prog 44 #[.agg #[.slice ar L.length cr, .slice br S.length dr, .map (some b)], .int .i64 (ids.length : Int), .func (.yield l) #[] #[]] w fun e W' => e = .returned (.bool true) ∧ J (pre ++ allN (fitF L S) (L.map (·.1)) r ids) W' ∧ NamedAt W' b (N + (13 ^ r - 1)) L ids ∧ KpM b p q w W'

theorem goOn_zero (L : List St) (S : List D3) (ar br : Option Addr) (cr dr b l p q : Nat) (J : List (List Int) → World → Prop) (hm : S.length ≤ 6) (hJ : JAb b J) (hY : RoundOk l p q J) (hbp : b ≠ p) (hbq : b ≠ q) : GoOk L S ar br cr dr b l p q J 0 := fun ids pre N n w hl hN13 hN hS hD hp hq hj => by
  refine (goOn_leaf L S ids ar br cr dr b N l p q n (fun pre' W => J pre' W ∧ ∃ es c, W.heap[b]? = some (.map es c)) pre w hm (by omega) hN ⟨hj, hN.isMap⟩ (fun W W' h hB => ?_) (fun m pre' x W h1 hq0 h2 h3 => ?_)).mono fun e W' h => ⟨h.1, h.2.1.1, ?_, h.2.2.toM⟩
  · obtain ⟨es, c, hh⟩ := h.2
    exact ⟨hJ _ _ _ h.1 h.2 (grownB1 hB), es, c, by rw [hB.block b (Array.getElem?_eq_some_iff.1 hh).1]; exact hh⟩
  · obtain ⟨fn, tmps, assign, body, hy, hR⟩ := hY m pre' x W h1.1 (hq0.elim fun W0 h => ⟨W0, h.1.1, h.2⟩) h2 h3
    refine ⟨fn, tmps, assign, body, hy, hR.mono fun e W' h => ⟨h.1, ⟨h.2.1, ?_⟩, h.2.2⟩⟩
    obtain ⟨es, c, hh⟩ := h1.2
    exact ⟨es, c, h.2.2.same b _ hh (.inr rfl) hbp hbq⟩
  · obtain ⟨D, ⟨es, c, hh, rest⟩, hM⟩ := hN
    exact ⟨D, (show W'.ownsMap Tryd.prog 3 starE b N D from ⟨es, c, h.2.2.same b _ hh (.inr rfl) hbp hbq, rest⟩).mono (by omega), hM⟩
end Go.Proofs.YtjdehbpgdplolaaDoor
