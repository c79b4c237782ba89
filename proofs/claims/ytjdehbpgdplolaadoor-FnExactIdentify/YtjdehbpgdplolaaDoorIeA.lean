/- The specification's search: its state in memory; a leaf of it. -/
import Derived.Test.YtjdehbpgdplolaaDoorIeP
import Derived.Test.YtjdehbpgdplolaaDoorNaE
import Derived.Test.YtjdehbpgdplolaaDoorL7A
import Derived.Test.YtjdehbpgdplolaaDoorL7B
import Derived.Test.YtjdehbpgdplolaaDoorPairN
namespace Go.Proofs.YtjdehbpgdplolaaDoor
open Go.RowKit Go.Sort
set_option linter.unusedVariables false

def SeAt (w : World) (b : Nat) (v0 v1 v2 : Value) (c m : Int) : Prop := w.cell? ⟨b, 0, none⟩ = some v0 ∧ w.cell? ⟨b, 1, none⟩ = some v1 ∧ w.cell? ⟨b, 2, none⟩ = some v2 ∧ w.cell? ⟨b, 3, none⟩ = some (.int .i64 c) ∧ w.cell? ⟨b, 4, none⟩ = some (.int .i64 m)
theorem cellK5 {w w' : World} {a : Addr} {v : Value} (h : w.cell? a = some v) (hB : Below w.heap.size w w') : w'.cell? a = some v := (hB.cell (World.block_lt_of_cell? w a h)).trans h
theorem cellG5 {w w' : World} {a : Addr} {v : Value} {row : Option Nat} (h : w.cell? a = some v) (hg : w.grownBy w' row) (hne : some a.block ≠ row) : w'.cell? a = some v := (World.cell?_of_block (hg.block a.block (World.block_lt_of_cell? w a h) hne)).trans h
theorem SeAt.kept {w w' : World} {b : Nat} {v0 v1 v2 : Value} {c m : Int} (h : SeAt w b v0 v1 v2 c m) (hB : Below w.heap.size w w') : SeAt w' b v0 v1 v2 c m := ⟨cellK5 h.1 hB, cellK5 h.2.1 hB, cellK5 h.2.2.1 hB, cellK5 h.2.2.2.1 hB, cellK5 h.2.2.2.2 hB⟩
theorem SeAt.lt {w : World} {b : Nat} {v0 v1 v2 : Value} {c m : Int} (h : SeAt w b v0 v1 v2 c m) : b < w.heap.size := World.block_lt_of_cell? w _ h.1
def FreeX (w : World) (b : Nat) : Prop := ∀ i, w.frozen? ⟨b, i, none⟩ = false
theorem FreeX.kept {w w' : World} {b : Nat} (h : FreeX w b) (hb : b < w.heap.size) (hB : Below w.heap.size w w') : FreeX w' b := fun i => (hB.frozen (p := ⟨b, i, none⟩) hb).trans (h i)
theorem FreeX.set {w : World} {b : Nat} (h : FreeX w b) (p : Addr) (v : Value) : FreeX (w.setCell p v) b := fun i => by rw [World.frozen?_setCell]; exact h i
/-- the numbers named so far, in memory apart from block x -/
def IdsAt (w : World) (x : Nat) (ir : Option Addr) (ids : List Int) : Prop := (ids = [] ∧ ir = none) ∨ ∃ g, ir = some ⟨g, 0, none⟩ ∧ g ≠ x ∧ g < w.heap.size ∧ ∀ i, i < ids.length → w.cell? ⟨g, i, none⟩ = some (.int .i64 (ids.getD i 0))
theorem IdsAt.nums {w : World} {x : Nat} {ir : Option Addr} {ids : List Int} (h : IdsAt w x ir ids) : Nums w ir ids ids.length := by
  rcases h with ⟨rfl, _⟩ | ⟨g, rfl, _, hl, hc⟩
  · exact .inl rfl
  · exact .inr ⟨g, 0, rfl, hl, fun i hi => by rw [Nat.zero_add]; exact hc i hi⟩
theorem IdsAt.grown {w w' : World} {x : Nat} {ir : Option Addr} {ids : List Int} (h : IdsAt w x ir ids) (hg : w.grownBy w' (some x)) : IdsAt w' x ir ids := by
  rcases h with h | ⟨g, hi, hn, hl, hc⟩
  · exact .inl h
  · exact .inr ⟨g, hi, hn, Nat.lt_of_lt_of_le hl hg.size, fun i hi => cellG5 (hc i hi) hg (fun e => hn (Option.some.inj e))⟩
/-- a list that lies apart from block x -/
def Apart1 (a : Option Addr) (x : Nat) : Prop := ∀ y, a = some y → y.block ≠ x
theorem starsG {w w' : World} {a : Option Addr} {L : List St} {n x : Nat} (h : Stars w a L n) (hg : w.grownBy w' (some x)) (hne : Apart1 a x) : Stars w' a L n := by
  rcases h with h | ⟨b, o, rfl, hb, hc⟩
  · exact .inl h
  · refine .inr ⟨b, o, rfl, Nat.lt_of_lt_of_le hb hg.size, fun i hi => ?_⟩
    have hn : ∀ k, some (⟨b, k, none⟩ : Addr).block ≠ some x := fun k e => hne _ rfl (Option.some.inj e)
    obtain ⟨c0, c1, c2, c3⟩ := hc i hi
    exact ⟨cellG5 c0 hg (hn _), cellG5 c1 hg (hn _), cellG5 c2 hg (hn _), cellG5 c3 hg (hn _)⟩
theorem dirsG {w w' : World} {a : Option Addr} {L : List D3} {n x : Nat} (h : Dirs w a L n) (hg : w.grownBy w' (some x)) (hne : Apart1 a x) : Dirs w' a L n := by
  rcases h with h | ⟨b, o, rfl, hb, hc⟩
  · exact .inl h
  · refine .inr ⟨b, o, rfl, Nat.lt_of_lt_of_le hb hg.size, fun i hi => ?_⟩
    have hn : ∀ k, some (⟨b, k, none⟩ : Addr).block ≠ some x := fun k e => hne _ rfl (Option.some.inj e)
    obtain ⟨c0, c1, c2⟩ := hc i hi
    exact ⟨cellG5 c0 hg (hn _), cellG5 c1 hg (hn _), cellG5 c2 hg (hn _)⟩
/-- the search's state at block x: the lists, what it found -/
structure SeSt (w : World) (x : Nat) (L : List St) (S : List D3) (ar br : Option Addr) (cr dr : Nat) (s : SeN) : Prop where
  cells : ∃ v, SeAt w x (.slice ar L.length cr) (.slice br S.length dr) v (s.count : Int) (s.many : Int) ∧ w.ownsRow (x + 1) 2 1 v s.best.length (intL s.best)
  free : FreeX w x
  stars : Stars w ar L L.length
  dirs : Dirs w br S S.length
  apS : Apart1 ar x
  apD : Apart1 br x
theorem ownK {w w' : World} {B n m : Nat} {t : TypeId} {v : Value} {xs : List Value} (h : w.ownsRow B t m v n xs) (hB : Below w.heap.size w w') : w'.ownsRow B t m v n xs := by
  obtain ⟨h1, h2⟩ := h
  refine ⟨h1, ?_⟩
  rcases h2 with h2 | ⟨g, c', cur, e, hg, hh, r⟩
  · exact .inl h2
  · exact .inr ⟨g, c', cur, e, hg, by rw [hB.block g (Array.getElem?_eq_some_iff.1 hh).1]; exact hh, r⟩
theorem ownSetX {w : World} {x n m : Nat} {t : TypeId} {v : Value} {xs : List Value} (h : w.ownsRow (x + 1) t m v n xs) (o : Nat) (y : Value) : (w.setCell ⟨x, o, none⟩ y).ownsRow (x + 1) t m v n xs := by
  obtain ⟨h1, h2⟩ := h
  refine ⟨h1, ?_⟩
  rcases h2 with h2 | ⟨g, c', cur, e, hg, hh, r⟩
  · exact .inl h2
  · exact .inr ⟨g, c', cur, e, hg, by rw [Below.heap_setCell w ⟨x, o, none⟩ y g (by show g ≠ x; omega)]; exact hh, r⟩
theorem grownB1 {w w' : World} {x : Nat} (h : Below w.heap.size w w') : w.grownBy w' (some x) := ⟨h.os, h.tape, h.output, h.size, fun k hk _ => h.block k hk⟩
theorem SeSt.kept {w w' : World} {x : Nat} {L : List St} {S : List D3} {ar br : Option Addr} {cr dr : Nat} {s : SeN} (h : SeSt w x L S ar br cr dr s) (hB : Below w.heap.size w w') : SeSt w' x L S ar br cr dr s := by
  obtain ⟨⟨v, h1, h2⟩, hf, hs, hd, a1, a2⟩ := h
  exact ⟨⟨v, h1.kept hB, ownK h2 hB⟩, hf.kept h1.lt hB, hs.kept hB, hd.kept hB, a1, a2⟩
/-- which star may go on -/
def fitF (L : List St) (S : List D3) (ids : List Int) (a : Int) : Bool := fitsI L S ids (vA S ids.length, (a, atV L L.length a)) ids.length
def smallI (L : List St) (ids : List Int) : Prop := ∀ i, i < ids.length → ids.getD i 0 ≠ 0 → smallB (atV L L.length (ids.getD i 0)).1 (atV L L.length (ids.getD i 0)).2.1 (atV L L.length (ids.getD i 0)).2.2 = true
def FromOk (L : List St) (S : List D3) (ar br : Option Addr) (cr dr x r : Nat) : Prop := ∀ (ids : List Int) (s : SeN) (ir : Option Addr) (er : Nat) (w : World), ids.length + r = S.length → smallI L ids → s.many + 13 ^ r ≤ 100000000 → s.count ≤ 6 → (ir = none → er = 0) → IdsAt w x ir ids → SeSt w x L S ar br cr dr s →
    Calls Tryd.prog 38 #[.pointer (some ⟨x, 0, none⟩), .slice ir ids.length er, .int .i64 (cntN ids : Int)] w fun e w' => (∃ v, e = .returned v) ∧ SeSt w' x L S ar br cr dr (fromN (fitF L S) (L.map (·.1)) r ids s) ∧ w.grownBy w' (some x)

set_option maxHeartbeats 4000000 in
set_option maxRecDepth 100000 in
theorem from_prune (L : List St) (S : List D3) (ar br : Option Addr) (cr dr x r : Nat) (hm6 : S.length ≤ 6) (ids : List Int) (s : SeN) (ir : Option Addr) (er : Nat) (w : World) (hl : ids.length + r = S.length) (hc6 : s.count ≤ 6) (hst : SeSt w x L S ar br cr dr s) (hp : cntN ids + r < s.count) :
    Calls Tryd.prog 38 #[.pointer (some ⟨x, 0, none⟩), .slice ir ids.length er, .int .i64 (cntN ids : Int)] w fun e w' => (∃ v, e = .returned v) ∧ SeSt w' x L S ar br cr dr (fromN (fitF L S) (L.map (·.1)) r ids s) ∧ w.grownBy w' (some x) := by
  have HS := hide hst
  have HF := hide (fromN_prune (F := fitF L S) (A := L.map (·.1)) hp)
  obtain ⟨⟨v, h1, h2⟩, hf, hs, hd, a1, a2⟩ := hst
  obtain ⟨c0, c1, c2, c3, c4⟩ := h1
  have r1 := cell_regrown c1
  have r3 := cell_regrown c3
  have hc := cntN_le ids
  generalize cntN ids = cn at *
  generalize ids.length = k at *
  generalize S.length = m at *
  clear h2 hf hs hd a1 a2 c0 c1 c2 c3 c4
  have hq : (cn : Int) + (m : Int) - (k : Int) < (s.count : Int) := by omega
  go_enter Tryd.func38, Tryd.ntmps38
  go_wp2_with fail
  refine wp_region_quiet_below (by kernel_rfl) (by kernel_rfl) ?_
  repeat (go_big_quiet_step (fail))
  refine wpQuiet_nil ?_
  intro _ hw'
  obtain ⟨⟨dq, osq⟩, hw''⟩ := hw'
  subst hw''
  have hx := below_regrown w dq osq
  go_wp2_with fail
  refine bodyPost_ret (results_none rfl _ _ _) rfl ?_
  exact ⟨⟨_, rfl⟩, by rw [unhide HF]; exact (unhide HS).kept hx, grownB1 hx⟩
end Go.Proofs.YtjdehbpgdplolaaDoor
