/- What the law on turns draws: DrawBack, DrawCompose, DrawApply, DrawTurnRight, DrawTurnText, DrawTurnOf. -/
import Derived.Test.YtijpnnooenpjoaaDoorDrawT1
namespace Go.Proofs.YtijpnnooenpjoaaDoor
open Go.RowKit
set_option linter.unusedVariables false

theorem Row.upT {w w' : World} {a : Option Addr} {len B B' : Nat} (h : Row w a len B) (hB : B ≤ B') (hk : ∀ k, k < B → w'.heap[k]? = w.heap[k]?) : Row w' a len B' := by
  have h' := h.kept hk
  rcases h' with h | ⟨bx, ox, rfl, hb, hz⟩
  · exact .inl h
  · exact .inr ⟨bx, ox, rfl, Nat.lt_of_lt_of_le hb hB, hz⟩
theorem Row.allocT {w : World} {a : Option Addr} {len : Nat} (h : Row w a len w.heap.size) (o : Obj) : Row (w.alloc o) a len (w.alloc o).heap.size := h.upT (by simp) (fun k hk => Below.heap_alloc w o k hk)
theorem Row.belowT {w w1 : World} {a : Option Addr} {len : Nat} (h : Row w a len w.heap.size) (hB : Below w.heap.size w w1) : Row w1 a len w1.heap.size := h.upT hB.size hB.block
theorem below_grownB {w0 w w' : World} {b : Nat} (h : Below w0.heap.size w0 w) (hg : w.grownBy w' (some b)) (hb : w0.heap.size ≤ b) : Below w0.heap.size w0 w' := h.grown hg h.size (fun k e => by have := Option.some.inj e; omega)

set_option maxRecDepth 100000 in
theorem drawBack_any (a : Option Addr) (len cap : Nat) (w : World) (hl : len ≤ 1048576) (hR : Row w a len w.heap.size) :
    Calls Tryd.prog 17 #[.slice a len cap] w fun e w' => ∃ p q r s : Int, e = .returned (.agg #[.int .i64 p, .int .i64 q, .int .i64 r, .int .i64 s]) ∧ Below w.heap.size w w' := by
  have HR := hide hR
  clear hR
  go_enter Tryd.func17, Tryd.ntmps17
  go_wp2_with fail
  refine (source_any a len cap _ hl ((unhide HR).allocT _)).mono ?_
  rintro e w1 ⟨rfl, hS1, hB1⟩
  have vr := (turnAt_new w 0 0 0 0 37).kept (by simp) hB1
  have fr := (freeT_new w 0 0 0 0 37).kept (by simp) hB1
  have hB : Below w.heap.size w w1 := below_call (below1 _ _) hB1
  simp only [World.size_alloc] at hS1
  have HS1 := hide hS1
  clear hS1 hB1
  go_wp2_with fail
  refine (l03Turn_any (w.heap.size + 1) _ (unhide HS1)).mono ?_
  rintro e w2 ⟨p, q, r, s, rfl, hS2, hg2⟩
  replace fr := fr.grown vr.lt hg2 (by omega)
  replace vr := vr.grown hg2 (by omega)
  replace hB := below_grownB hB hg2 (by omega)
  clear hS2 hg2 HS1
  obtain ⟨cr0, cr1, cr2, cr3⟩ := vr
  obtain ⟨fr0, fr1, fr2, fr3⟩ := fr
  go_wp2_with fail
  exact bodyPost_ret (v := .agg #[.int .i64 p, .int .i64 q, .int .i64 r, .int .i64 s]) (by simp [results, Tryd.results17, go_sem, cr0, cr1, cr2, cr3]) rfl ⟨p, q, r, s, rfl, below_set4 hB (Nat.le_refl _) _ _ _ _⟩
end Go.Proofs.YtijpnnooenpjoaaDoor
