/- Two spans held against each other: the program's. -/
import Derived.Test.YthmelofbdbplnaaDoorPairD
namespace Go.Proofs.YthmelofbdbplnaaDoor
open Go.RowKit Go.Sort
set_option linter.unusedVariables false

/-- a span: the pair, and the two directions -/
abbrev Sp := P2 × V3 × V3
def spL (s : Sp) : List Value := [.int .i64 s.1.1, .int .i64 s.1.2, .int .i64 s.2.1.1, .int .i64 s.2.1.2.1, .int .i64 s.2.1.2.2, .int .i64 s.2.2.1, .int .i64 s.2.2.2.1, .int .i64 s.2.2.2.2]
def cosQ (p q : Sp) : Int := cosI p.2.1.1 p.2.1.2.1 p.2.1.2.2 p.2.2.1 p.2.2.2.1 p.2.2.2.2 q.2.1.1 q.2.1.2.1 q.2.1.2.2 q.2.2.1 q.2.2.2.1 q.2.2.2.2
def spanI (p q : Sp) : Int := if cosQ p q = 0 then (if ordI p.1.1 q.1.1 = 0 then ordI p.1.2 q.1.2 else ordI p.1.1 q.1.1) else cosQ p q
def SpanAt (w : World) (b : Nat) (x y a1 a2 a3 b1 b2 b3 : Int) : Prop := w.cell? ⟨b, 0, none⟩ = some (.int .i64 x) ∧ w.cell? ⟨b, 1, none⟩ = some (.int .i64 y) ∧ w.cell? ⟨b, 2, none⟩ = some (.int .i64 a1) ∧ w.cell? ⟨b, 3, none⟩ = some (.int .i64 a2) ∧ w.cell? ⟨b, 4, none⟩ = some (.int .i64 a3) ∧ w.cell? ⟨b, 5, none⟩ = some (.int .i64 b1) ∧ w.cell? ⟨b, 6, none⟩ = some (.int .i64 b2) ∧ w.cell? ⟨b, 7, none⟩ = some (.int .i64 b3)
theorem SpanAt.kept {w w' : World} {b : Nat} {x y a1 a2 a3 b1 b2 b3 : Int} (h : SpanAt w b x y a1 a2 a3 b1 b2 b3) (hB : Below w.heap.size w w') : SpanAt w' b x y a1 a2 a3 b1 b2 b3 := by
  have hb := World.block_lt_of_cell? w _ h.1
  obtain ⟨h0, h1, h2, h3, h4, h5, h6, h7⟩ := h
  exact ⟨by rw [hB.cell (p := ⟨b, 0, none⟩) hb]; exact h0, by rw [hB.cell (p := ⟨b, 1, none⟩) hb]; exact h1, by rw [hB.cell (p := ⟨b, 2, none⟩) hb]; exact h2, by rw [hB.cell (p := ⟨b, 3, none⟩) hb]; exact h3, by rw [hB.cell (p := ⟨b, 4, none⟩) hb]; exact h4, by rw [hB.cell (p := ⟨b, 5, none⟩) hb]; exact h5, by rw [hB.cell (p := ⟨b, 6, none⟩) hb]; exact h6, by rw [hB.cell (p := ⟨b, 7, none⟩) hb]; exact h7⟩
theorem spanAt_new (w : World) (x y a1 a2 a3 b1 b2 b3 : Int) (t : TypeId) : SpanAt (w.alloc (.cells #[.int .i64 x, .int .i64 y, .int .i64 a1, .int .i64 a2, .int .i64 a3, .int .i64 b1, .int .i64 b2, .int .i64 b3] t)) w.heap.size x y a1 a2 a3 b1 b2 b3 := by
  refine ⟨?_, ?_, ?_, ?_, ?_, ?_, ?_, ?_⟩ <;> simp

set_option maxHeartbeats 1000000 in
set_option maxRecDepth 100000 in
theorem spanOrder_any (x y a1 a2 a3 b1 b2 b3 u v c1 c2 c3 d1 d2 d3 : Int) (w : World) :
    Calls Tryd.prog 39 #[.agg #[.int .i64 x, .int .i64 y, .int .i64 a1, .int .i64 a2, .int .i64 a3, .int .i64 b1, .int .i64 b2, .int .i64 b3], .agg #[.int .i64 u, .int .i64 v, .int .i64 c1, .int .i64 c2, .int .i64 c3, .int .i64 d1, .int .i64 d2, .int .i64 d3]] w fun e w' => e = .returned (.int .i64 (spanI ((x, y), (a1, a2, a3), (b1, b2, b3)) ((u, v), (c1, c2, c3), (d1, d2, d3)))) ∧ Below w.heap.size w w' := by
  have HI : Hid (spanI ((x, y), (a1, a2, a3), (b1, b2, b3)) ((u, v), (c1, c2, c3), (d1, d2, d3)) = if cosI a1 a2 a3 b1 b2 b3 c1 c2 c3 d1 d2 d3 = 0 then (if ordI x u = 0 then ordI y v else ordI x u) else cosI a1 a2 a3 b1 b2 b3 c1 c2 c3 d1 d2 d3) := hide rfl
  have cC := hide (fun W => cosCmp_any a1 a2 a3 b1 b2 b3 c1 c2 c3 d1 d2 d3 W)
  have c1' := hide (fun W => order_any x u W)
  have c2' := hide (fun W => order_any y v W)
  generalize spanI ((x, y), (a1, a2, a3), (b1, b2, b3)) ((u, v), (c1, c2, c3), (d1, d2, d3)) = res at *
  generalize cosI a1 a2 a3 b1 b2 b3 c1 c2 c3 d1 d2 d3 = cc at *
  generalize ordI x u = o1 at *
  generalize ordI y v = o2 at *
  have P0 := hide (spanAt_new w x y a1 a2 a3 b1 b2 b3 56)
  have hP := fun o => (unhide P0).kept (below1 _ o)
  have Q0 := fun W => spanAt_new W u v c1 c2 c3 d1 d2 d3 56
  have p1 := hP (.cells #[.int .i64 u, .int .i64 v, .int .i64 c1, .int .i64 c2, .int .i64 c3, .int .i64 d1, .int .i64 d2, .int .i64 d3] 56)
  have q1 := Q0 (w.alloc (.cells #[.int .i64 x, .int .i64 y, .int .i64 a1, .int .i64 a2, .int .i64 a3, .int .i64 b1, .int .i64 b2, .int .i64 b3] 56))
  have hz : (w.alloc (.cells #[.int .i64 x, .int .i64 y, .int .i64 a1, .int .i64 a2, .int .i64 a3, .int .i64 b1, .int .i64 b2, .int .i64 b3] 56)).heap.size = w.heap.size + 1 := by simp
  rw [hz] at q1
  have P1 := hide p1
  have Q1 := hide q1
  have B1 := hide (below2 w (.cells #[.int .i64 x, .int .i64 y, .int .i64 a1, .int .i64 a2, .int .i64 a3, .int .i64 b1, .int .i64 b2, .int .i64 b3] 56) (.cells #[.int .i64 u, .int .i64 v, .int .i64 c1, .int .i64 c2, .int .i64 c3, .int .i64 d1, .int .i64 d2, .int .i64 d3] 56))
  clear hz hP Q0 p1 q1 P0
  go_enter Tryd.func39, Tryd.ntmps39
  go_wp2_with fail
  refine (unhide cC _).mono ?_
  rintro e w1 ⟨rfl, hx⟩
  have B2 := hide (below_call (unhide B1) hx)
  obtain ⟨e0, e1, _⟩ := (unhide P1).kept hx
  obtain ⟨f0, f1, _⟩ := (unhide Q1).kept hx
  clear hx B1 P1 Q1
  by_cases hc : cc = 0
  · subst hc
    rw [if_pos rfl] at HI
    go_wp2_with fail
    refine (unhide c1' _).mono ?_
    rintro e w2 ⟨rfl, hw⟩
    rw [hw]
    clear hw w2
    by_cases ho : o1 = 0
    · subst ho
      rw [if_pos rfl] at HI
      go_wp2_with fail
      refine (unhide c2' _).mono ?_
      rintro e w2 ⟨rfl, hw⟩
      rw [hw]
      clear hw w2
      go_wp2_with fail
      go_ret
      exact ⟨by rw [unhide HI]; rfl, unhide B2⟩
    · rw [if_neg ho] at HI
      have ho' : (o1 == 0) = false := by simp [ho]
      go_wp2_with fail
      go_ret
      exact ⟨by rw [unhide HI]; rfl, unhide B2⟩
  · rw [if_neg hc] at HI
    have hc' : (cc == 0) = false := by simp [hc]
    go_wp2_with fail
    go_ret
    exact ⟨by rw [unhide HI]; rfl, unhide B2⟩
end Go.Proofs.YthmelofbdbplnaaDoor
