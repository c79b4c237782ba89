/- Several texts in one: ModW. -/
import Derived.Lib.SmallJoins
import Derived.Test.YtjdehbpgdplolaaGreatDoorQLookOwn16
import Derived.Test.YtjdehbpgdplolaaGreatDoorQLookOwn24
namespace Go.Proofs.YtjdehbpgdplolaaGreatDoor
open Go.ChangeShapes Go.WideShapes Go.ChangeAt Go.RowKit Go.Joins Go.Deep
set_option linter.unusedVariables false

theorem array9 {α : Type} {cs : Array α} (h : cs.size = 9) : ∃ c0 c1 c2 c3 c4 c5 c6 c7 c8, cs = #[c0, c1, c2, c3, c4, c5, c6, c7, c8] := by
  obtain ⟨l⟩ := cs
  match l, h with
  | [c0, c1, c2, c3, c4, c5, c6, c7, c8], _ => exact ⟨c0, c1, c2, c3, c4, c5, c6, c7, c8, rfl⟩
theorem trod_struct6 {H : Type} {enc : TypeId × Value → H} {P : Program} {w : World} {base : Nat} {spare : Nat → Bool} {held : Bool} {t : TypeId} {f0 f1 f2 f3 f4 f5 : Field} {fuel : Nat} {cs : List Value} {x : DataW H × List MemPlace} (ht : P.underlying t = some (.struct #[f0, f1, f2, f3, f4, f5])) (h : DataW.trod enc P w base spare held fuel t cs = some x) :
    ∃ y0 y1 y2 y3 y4 y5 n, DataW.trod enc P w base spare held n f0.type ((cs.drop f0.offset).take (P.cellsOf f0.type)) = some y0 ∧
      DataW.trod enc P w base spare held n f1.type ((cs.drop f1.offset).take (P.cellsOf f1.type)) = some y1 ∧ DataW.trod enc P w base spare held n f2.type ((cs.drop f2.offset).take (P.cellsOf f2.type)) = some y2 ∧
      DataW.trod enc P w base spare held n f3.type ((cs.drop f3.offset).take (P.cellsOf f3.type)) = some y3 ∧ DataW.trod enc P w base spare held n f4.type ((cs.drop f4.offset).take (P.cellsOf f4.type)) = some y4 ∧ DataW.trod enc P w base spare held n f5.type ((cs.drop f5.offset).take (P.cellsOf f5.type)) = some y5 := by
  obtain ⟨xs, n, _, rfl, hl, hlen, hf⟩ := DataW.trod_struct ht h
  match xs, hlen with
  | [y0, y1, y2, y3, y4, y5], _ => exact ⟨y0, y1, y2, y3, y4, y5, n, by simpa using hf 0 f0 rfl, by simpa using hf 1 f1 rfl, by simpa using hf 2 f2 rfl, by simpa using hf 3 f3 rfl, by simpa using hf 4 f4 rfl, by simpa using hf 5 f5 rfl⟩
theorem cellsTk : Tryz.prog.cellsOf 26 = 9 := by kernel_rfl
theorem cellsTn : Tryz.prog.cellsOf 24 = 4 := by kernel_rfl
theorem cellsSl : Tryz.prog.cellsOf 22 = 1 := by kernel_rfl
set_option maxRecDepth 100000 in
theorem open_tracker {H : Type} {enc : TypeId × Value → H} {w : World} {r : Reach} {b0 : Nat} {v : Value} {d : DataW H} {p : List MemPlace}
    (hv : Value.okWide Tryz.prog w r b0 26 v) (h : DataW.Trod enc Tryz.prog w 0 (fun _ => true) true 26 v d p) :
    ∃ (L : List St) (a : Option Addr) (len cap : Nat) (lim mode A B C D coast fr : Int), v = .agg #[.slice a len cap, .int .i64 lim, .int .i64 mode, .int .i64 A, .int .i64 B, .int .i64 C, .int .i64 D, .int .i64 coast, .int .i64 fr] ∧ L.length = len ∧ Stars w a L len ∧ len ≤ maxLen := by
  obtain ⟨cs, rfl, hsz⟩ := okWide_struct Tryz.underlying26 hv
  obtain ⟨c0, c1, c2, c3, c4, c5, c6, c7, c8, rfl⟩ := array9 (hsz.trans cellsTk)
  obtain ⟨fuel, hf⟩ := h
  have hf' : DataW.trod enc Tryz.prog w 0 (fun _ => true) true fuel 26 [c0, c1, c2, c3, c4, c5, c6, c7, c8] = some (d, p) := by simpa [Value.cells] using hf
  obtain ⟨y0, y1, y2, y3, y4, y5, n, g0, g1, g2, g3, g4, g5⟩ := trod_struct6 Tryz.underlying26 hf'
  have e0 : DataW.trod enc Tryz.prog w 0 (fun _ => true) true n 22 (([c0, c1, c2, c3, c4, c5, c6, c7, c8].drop 0).take (Tryz.prog.cellsOf 22)) = some y0 := g0
  have e1 : DataW.trod enc Tryz.prog w 0 (fun _ => true) true n 2 (([c0, c1, c2, c3, c4, c5, c6, c7, c8].drop 1).take (Tryz.prog.cellsOf 2)) = some y1 := g1
  have e2 : DataW.trod enc Tryz.prog w 0 (fun _ => true) true n 2 (([c0, c1, c2, c3, c4, c5, c6, c7, c8].drop 2).take (Tryz.prog.cellsOf 2)) = some y2 := g2
  have e3 : DataW.trod enc Tryz.prog w 0 (fun _ => true) true n 24 (([c0, c1, c2, c3, c4, c5, c6, c7, c8].drop 3).take (Tryz.prog.cellsOf 24)) = some y3 := g3
  have e4 : DataW.trod enc Tryz.prog w 0 (fun _ => true) true n 2 (([c0, c1, c2, c3, c4, c5, c6, c7, c8].drop 7).take (Tryz.prog.cellsOf 2)) = some y4 := g4
  have e5 : DataW.trod enc Tryz.prog w 0 (fun _ => true) true n 2 (([c0, c1, c2, c3, c4, c5, c6, c7, c8].drop 8).take (Tryz.prog.cellsOf 2)) = some y5 := g5
  rw [cellsSl] at e0
  rw [cellsI] at e1 e2 e4 e5
  rw [cellsTn] at e3
  clear g0 g1 g2 g3 g4 g5
  have e0' : DataW.trod enc Tryz.prog w 0 (fun _ => true) true n 22 [c0] = some y0 := e0
  obtain ⟨z0, z1, z2, z3, n2, _, _, k0, k1, k2, k3⟩ := trod_struct4 Tryz.underlying24 e3
  have k0' : DataW.trod enc Tryz.prog w 0 (fun _ => true) true n2 2 (([c3, c4, c5, c6].drop 0).take (Tryz.prog.cellsOf 2)) = some z0 := k0
  have k1' : DataW.trod enc Tryz.prog w 0 (fun _ => true) true n2 2 (([c3, c4, c5, c6].drop 1).take (Tryz.prog.cellsOf 2)) = some z1 := k1
  have k2' : DataW.trod enc Tryz.prog w 0 (fun _ => true) true n2 2 (([c3, c4, c5, c6].drop 2).take (Tryz.prog.cellsOf 2)) = some z2 := k2
  have k3' : DataW.trod enc Tryz.prog w 0 (fun _ => true) true n2 2 (([c3, c4, c5, c6].drop 3).take (Tryz.prog.cellsOf 2)) = some z3 := k3
  rw [cellsI] at k0' k1' k2' k3'
  obtain ⟨i1, q1, _, _⟩ := DataW.trod_int Tryz.underlying2 e1
  obtain ⟨i2, q2, _, _⟩ := DataW.trod_int Tryz.underlying2 e2
  obtain ⟨i4, q4, _, _⟩ := DataW.trod_int Tryz.underlying2 e4
  obtain ⟨i5, q5, _, _⟩ := DataW.trod_int Tryz.underlying2 e5
  obtain ⟨j0, p0, _, _⟩ := DataW.trod_int Tryz.underlying2 k0'
  obtain ⟨j1, p1, _, _⟩ := DataW.trod_int Tryz.underlying2 k1'
  obtain ⟨j2, p2, _, _⟩ := DataW.trod_int Tryz.underlying2 k2'
  obtain ⟨j3, p3, _, _⟩ := DataW.trod_int Tryz.underlying2 k3'
  simp at q1 q2 q4 q5 p0 p1 p2 p3
  subst q1 q2 q4 q5 p0 p1 p2 p3
  have hc : ∃ a len cap, c0 = .slice a len cap := by
    rcases open_slice Tryz.underlying22 e0' with ⟨hcs, _⟩ | ⟨a', l, c, m, nn, D, Pl, hcs, _⟩
    · simp at hcs
      exact ⟨_, _, _, hcs⟩
    · simp at hcs
      exact ⟨_, _, _, hcs⟩
  obtain ⟨a, len, cap, rfl⟩ := hc
  obtain ⟨L, hl, hS, hm⟩ := open_stars e0'
  exact ⟨L, a, len, cap, i1, i2, j0, j1, j2, j3, i4, i5, rfl, hl, hS, hm⟩
end Go.Proofs.YtjdehbpgdplolaaGreatDoor
