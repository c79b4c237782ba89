/- Several texts in one: IeR. -/
import Derived.Test.YtlleafjdgblhcaaGreatDoorQDeskRunOwn14
namespace Go.Proofs.YtlleafjdgblhcaaGreatDoor
set_option linter.unusedVariables false
set_option linter.unusedSimpArgs false
set_option maxRecDepth 100000
set_option maxHeartbeats 8000000
section
open Go.RowKit Go.Sort Go.Shelf
attribute [local go_sem] Oper.semAt_some
structure vj (W : World) (p q : Nat) (G : List Int × Nat) : Prop where
 most : ∃ v, W.heap[p]? = some (.cells #[v] 67 (0, 0)) ∧ ((G.1 = [] ∧ v = .slice none 0 0) ∨ ∃ g, v = .slice (some ⟨g, 0, none⟩) G.1.length G.1.length ∧ p ≤ g ∧ g ≠ p ∧ g ≠ q ∧ cH W 2 g (G.1.length * 1) (qJ G.1))
 alike : W.heap[q]? = some (.cells #[.int .i64 (wrap64 (G.2 : Int))] 2 (0, 0))
 len : G.1.length ≤ 6
structure GrJ (p q l d : Nat) (rec : Loop) (w0 : World) (pre : List (List Int)) (W : World) : Prop where
 box : vj W p q (pre.foldl de ([], 0))
 rc : W.heap[l]? = some (.loop rec)
 df : W.heap[d]? = some (.deferred (some []))
 bel : Below w0.heap.size w0 W
theorem ck {W W' : World} {k : Nat} {o : Obj} {row : Option Nat} (h : W.heap[k]? = some o) (hg : W.grownBy W' row) (hne : some k ≠ row) : W'.heap[k]? = some o := (hg.block k (Array.getElem?_eq_some_iff.1 h).1 hne).trans h
theorem vj.grown {W W' : World} {p q : Nat} {G : List Int × Nat} {row : Option Nat} (h : vj W p q G) (hg : W.grownBy W' row) (hne : ∀ k cs t f, W.heap[k]? = some (.cells cs t f) → some k ≠ row) : vj W' p q G := by
 obtain ⟨⟨v, h1, h2⟩, h3, h4⟩ := h
 refine ⟨⟨v, ck h1 hg (hne _ _ _ _ h1), ?_⟩, ck h3 hg (hne _ _ _ _ h3), h4⟩
 rcases h2 with h2 | ⟨g, e, n0, n1, n2, cur, hc, hr⟩
 ·exact .inl h2
 ·exact .inr ⟨g, e, n0, n1, n2, cur, ck hc hg (hne _ _ _ _ hc), hr⟩
theorem GrJ.abides {p q l d : Nat} {rec : Loop} {w0 : World} {b : Nat} (hb : w0.heap.size ≤ b) : JAb b (GrJ p q l d rec w0) := fun pre W W' h ⟨es, c, hm⟩ hg =>
 ⟨h.box.grown hg (fun k cs t f hk e => by have := Option.some.inj e; subst this; rw [hm] at hk; cases hk), ck h.rc hg (fun e => by have e2 := Option.some.inj e; have h2 := h.rc; rw [e2, hm] at h2; cases h2), ck h.df hg (fun e => by have e2 := Option.some.inj e; have h2 := h.df; rw [e2, hm] at h2; cases h2), h.bel.trans ⟨hg.os, hg.tape, hg.output, hg.size, fun k hk => hg.block k (Nat.lt_of_lt_of_le hk h.bel.size) (fun e => by have := Option.some.inj e; omega)⟩⟩
theorem GrJ.below {p q l d : Nat} {rec : Loop} {w0 : World} (pre : List (List Int)) (W W' : World) (h : GrJ p q l d rec w0 pre W) (hB : Below W.heap.size W W') : GrJ p q l d rec w0 pre W' := by
 have hg : W.grownBy W' none := ⟨hB.os, hB.tape, hB.output, hB.size, fun k hk _ => hB.block k hk⟩
 exact ⟨h.box.grown hg (fun k cs t f hk e => by cases e), ck h.rc hg (by simp), ck h.df hg (by simp), ak h.bel hB⟩
theorem ye {P : Program} {n : Nat} {g : Operand} {ps : Array Tmp} {assign body : Code} {Q : Exit → Act → World → Prop} {a : Act} {w : World} {gf : Nat} {lb : Array Value} (hg : a.eval g = .func (.func gf) #[] lb) (eg : ∀ args w, (callFunc gf args).run P w = .ok (.enter gf args) w)
  (hc : ∀ (rec : Loop), rec.state = .ready → rec.pending = none → rec.tmps = a.tmps → rec.params = ps → rec.assign = assign → rec.body = body → CallsIn Fence.wide (n - 1) P gf (#[.func (.yield (w.heap.size + 1)) #[] #[]] ++ lb) ((w.alloc (.deferred (some []))).alloc (.loop rec)) fun e W' => (∃ v, e = .returned v) ∧ W'.heap[w.heap.size + 1]? = some (.loop rec) ∧ Q .normal { a with defers := { target := .collected w.heap.size, args := #[] } :: a.defers } (W'.putObj (w.heap.size + 1) (.loop { rec with state := .exhausted }))) :
  (Code.rangeFunc g ps assign body).wpIn Fence.wide n P Q a w := by
 refine wpIn_rangeFunc fun fn _ => ?_
 refine ⟨w.heap.size + 1, _, _, { target := .fn (.func gf) lb, args := #[.func (.yield (w.heap.size + 1)) #[] #[]] }, ?wa, gf, #[.func (.yield (w.heap.size + 1)) #[] #[]] ++ lb, ?wb, run_enterLoop_outer _ _ _ _ _, ?res, fun _ _ => trivial, ?inv, fun h => (by cases h), ?call⟩
 case res =>
  simp only [resolve, hg]
  simp [go_sem]
  rfl
 case inv =>
  simp [invoke, go_sem, eg]
  rfl
 case call =>
  refine (hc _ rfl rfl rfl rfl rfl rfl).mono ?_
  rintro e W' ⟨⟨v, rfl⟩, hl, hq⟩
  exact ⟨none, _, run_endLoop hl (by simp), hq⟩
end
end Go.Proofs.YtlleafjdgblhcaaGreatDoor
