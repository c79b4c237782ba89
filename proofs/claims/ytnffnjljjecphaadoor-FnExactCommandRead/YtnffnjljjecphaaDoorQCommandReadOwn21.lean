/- Several texts in one: CmW. -/
import Derived.Test.YtnffnjljjecphaaDoorRows
import Derived.Deep.Slices
import Derived.Deep.Strs
import Derived.Stop.LaidErr
import Derived.LaidHandle
import Derived.LaidMore
import Derived.ProofKit
import Derived.Lib.SmallJoins
import Derived.ShutString
import Derived.Test.YtnffnjljjecphaaDoorQCommandReadOwn6
import Derived.Test.YtnffnjljjecphaaDoorQCommandReadOwn20
namespace Go.Proofs.YtnffnjljjecphaaDoor
open Go.ChangeShapes Go.WideShapes Go.ChangeAt Go.RowKit Go.Joins Go.Deep
set_option linter.unusedVariables false

def laidCmd : List (String × DataW Unit) := [("loop.example/g00577/impl.errNoCommand", Rows.laid_loop_example_g00577_impl_errNoCommand)]
theorem star_ptrC : "*" ++ "errors.errorString" = "*errors.errorString" := by decide
theorem rowC (u : TypeId) (h : Tryd.prog.typeName? 3 u = some "*errors.errorString") : u = 182 :=
  typeName_ptr_named (nm := "errors.errorString") (by rw [star_ptrC]; kernel_rfl) (by kernel_rfl) (by decide) u (by rw [star_ptrC]; exact h)
theorem cmdNamed : Tryd.prog.globalNamed "loop.example/g00577/impl.errNoCommand" = some 0 := by kernel_rfl
theorem cmdType : (Tryd.prog.globals[0]?).map (·.type) = some 113 := by kernel_rfl
theorem cmdVar_of_laid {W : World} (h : laidMetH Tryd.prog laidCmd W) : ∃ p, W.var? Tryd.prog "loop.example/g00577/impl.errNoCommand" = some #[.iface 182 (.pointer (some p))] := by
  have h' : laidMet Tryd.prog laidCmd W := h
  obtain ⟨a, s, hv, _⟩ := laid_sentinel h' cmdNamed cmdType Tryd.underlying113 rowC Tryd.underlying182 Tryd.underlying207 rfl rfl Tryd.underlying9 (by kernel_rfl) (by kernel_rfl)
  exact ⟨a, hv⟩
theorem errCmd_of_var {W : World} {p : Addr} (hv : W.var? Tryd.prog "loop.example/g00577/impl.errNoCommand" = some #[.iface 182 (.pointer (some p))]) : ErrCmd p W := by
  unfold ErrCmd
  rw [World.var?_cell cmdNamed hv 0]
  rfl
theorem cmd_read {H : Type} (enc : TypeId × Value → H) {W : World} {p : Addr} (hv : W.var? Tryd.prog "loop.example/g00577/impl.errNoCommand" = some #[.iface 182 (.pointer (some p))]) (sp : Nat → Bool) :
    DataW.TrodVars enc Tryd.prog W sp ["loop.example/g00577/impl.errNoCommand"] [tok enc (.iface 182 (.pointer (some p)))] [.cell 0 0] :=
  vars_read1 enc cmdNamed cmdType Tryd.underlying113 hv trivial sp
theorem cmd_met (os : Os) (args : Array Value) : laidMetH Tryd.prog laidCmd ((World.doorLaid Tryd.prog 400 os).forCall (fun _ _ => 0) ⟨#[], args, []⟩).memory :=
  laidMet_of_run' 8 (by kernel_rfl) (by kernel_rfl)
theorem array11 {α : Type} {cs : Array α} (h : cs.size = 11) : ∃ c0 c1 c2 c3 c4 c5 c6 c7 c8 c9 c10, cs = #[c0, c1, c2, c3, c4, c5, c6, c7, c8, c9, c10] := by
  obtain ⟨l⟩ := cs
  match l, h with
  | [c0, c1, c2, c3, c4, c5, c6, c7, c8, c9, c10], _ => exact ⟨c0, c1, c2, c3, c4, c5, c6, c7, c8, c9, c10, rfl⟩
theorem trod_struct6C {H : Type} {enc : TypeId × Value → H} {P : Program} {w : World} {base : Nat} {spare : Nat → Bool} {held : Bool} {t : TypeId} {f0 f1 f2 f3 f4 f5 : Field} {fuel : Nat} {cs : List Value} {x : DataW H × List MemPlace} (ht : P.underlying t = some (.struct #[f0, f1, f2, f3, f4, f5])) (h : DataW.trod enc P w base spare held fuel t cs = some x) :
    ∃ y0 y1 y2 y3 y4 y5 n, DataW.trod enc P w base spare held n f0.type ((cs.drop f0.offset).take (P.cellsOf f0.type)) = some y0 ∧
      DataW.trod enc P w base spare held n f1.type ((cs.drop f1.offset).take (P.cellsOf f1.type)) = some y1 ∧ DataW.trod enc P w base spare held n f2.type ((cs.drop f2.offset).take (P.cellsOf f2.type)) = some y2 ∧
      DataW.trod enc P w base spare held n f3.type ((cs.drop f3.offset).take (P.cellsOf f3.type)) = some y3 ∧ DataW.trod enc P w base spare held n f4.type ((cs.drop f4.offset).take (P.cellsOf f4.type)) = some y4 ∧ DataW.trod enc P w base spare held n f5.type ((cs.drop f5.offset).take (P.cellsOf f5.type)) = some y5 := by
  obtain ⟨xs, n, _, rfl, hl, hlen, hf⟩ := DataW.trod_struct ht h
  match xs, hlen with
  | [y0, y1, y2, y3, y4, y5], _ => exact ⟨y0, y1, y2, y3, y4, y5, n, by simpa using hf 0 f0 rfl, by simpa using hf 1 f1 rfl, by simpa using hf 2 f2 rfl, by simpa using hf 3 f3 rfl, by simpa using hf 4 f4 rfl, by simpa using hf 5 f5 rfl⟩
theorem cellsCm : Tryd.prog.cellsOf 28 = 11 := by kernel_rfl
theorem cellsCt : Tryd.prog.cellsOf 23 = 4 := by kernel_rfl
theorem cellsCf : Tryd.prog.cellsOf 26 = 3 := by kernel_rfl
theorem cellsCd : Tryd.prog.cellsOf 24 = 1 := by kernel_rfl
theorem cellsCi : Tryd.prog.cellsOf 2 = 1 := by kernel_rfl
theorem cellsCs : Tryd.prog.cellsOf 9 = 1 := by kernel_rfl
set_option maxRecDepth 100000 in
theorem open_command {H : Type} {enc : TypeId × Value → H} {w : World} {r : Reach} {b0 : Nat} {v : Value} {d : DataW H} {p : List MemPlace}
    (hv : Value.okWide Tryd.prog w r b0 28 v) (h : DataW.Trod enc Tryd.prog w 0 (fun _ => true) true 28 v d p) :
    ∃ (S : List D3) (a : Option Addr) (len cap : Nat) (kind A B C D wd ht lv fo : Int) (px : ByteArray), v = .agg #[.int .i64 kind, .int .i64 A, .int .i64 B, .int .i64 C, .int .i64 D, .slice a len cap, .int .i64 wd, .int .i64 ht, .string px, .int .i64 lv, .int .i64 fo] ∧ S.length = len ∧ Dirs w a S len ∧ len ≤ maxLen ∧ px.size ≤ maxLen := by
  obtain ⟨cs, rfl, hsz⟩ := okWide_struct Tryd.underlying28 hv
  obtain ⟨c0, c1, c2, c3, c4, c5, c6, c7, c8, c9, c10, rfl⟩ := array11 (hsz.trans cellsCm)
  obtain ⟨fuel, hf⟩ := h
  have hf' : DataW.trod enc Tryd.prog w 0 (fun _ => true) true fuel 28 [c0, c1, c2, c3, c4, c5, c6, c7, c8, c9, c10] = some (d, p) := by simpa [Value.cells] using hf
  obtain ⟨y0, y1, y2, y3, y4, y5, n, g0, g1, g2, g3, g4, g5⟩ := trod_struct6C Tryd.underlying28 hf'
  have e0 : DataW.trod enc Tryd.prog w 0 (fun _ => true) true n 2 (([c0, c1, c2, c3, c4, c5, c6, c7, c8, c9, c10].drop 0).take (Tryd.prog.cellsOf 2)) = some y0 := g0
  have e1 : DataW.trod enc Tryd.prog w 0 (fun _ => true) true n 23 (([c0, c1, c2, c3, c4, c5, c6, c7, c8, c9, c10].drop 1).take (Tryd.prog.cellsOf 23)) = some y1 := g1
  have e2 : DataW.trod enc Tryd.prog w 0 (fun _ => true) true n 24 (([c0, c1, c2, c3, c4, c5, c6, c7, c8, c9, c10].drop 5).take (Tryd.prog.cellsOf 24)) = some y2 := g2
  have e3 : DataW.trod enc Tryd.prog w 0 (fun _ => true) true n 26 (([c0, c1, c2, c3, c4, c5, c6, c7, c8, c9, c10].drop 6).take (Tryd.prog.cellsOf 26)) = some y3 := g3
  have e4 : DataW.trod enc Tryd.prog w 0 (fun _ => true) true n 2 (([c0, c1, c2, c3, c4, c5, c6, c7, c8, c9, c10].drop 9).take (Tryd.prog.cellsOf 2)) = some y4 := g4
  have e5 : DataW.trod enc Tryd.prog w 0 (fun _ => true) true n 2 (([c0, c1, c2, c3, c4, c5, c6, c7, c8, c9, c10].drop 10).take (Tryd.prog.cellsOf 2)) = some y5 := g5
  rw [cellsCd] at e2
  rw [cellsCi] at e0 e4 e5
  rw [cellsCt] at e1
  rw [cellsCf] at e3
  clear g0 g1 g2 g3 g4 g5
  have e2' : DataW.trod enc Tryd.prog w 0 (fun _ => true) true n 24 [c5] = some y2 := e2
  obtain ⟨z0, z1, z2, z3, n2, _, _, k0, k1, k2, k3⟩ := trod_struct4 Tryd.underlying23 e1
  have k0' : DataW.trod enc Tryd.prog w 0 (fun _ => true) true n2 2 (([c1, c2, c3, c4].drop 0).take (Tryd.prog.cellsOf 2)) = some z0 := k0
  have k1' : DataW.trod enc Tryd.prog w 0 (fun _ => true) true n2 2 (([c1, c2, c3, c4].drop 1).take (Tryd.prog.cellsOf 2)) = some z1 := k1
  have k2' : DataW.trod enc Tryd.prog w 0 (fun _ => true) true n2 2 (([c1, c2, c3, c4].drop 2).take (Tryd.prog.cellsOf 2)) = some z2 := k2
  have k3' : DataW.trod enc Tryd.prog w 0 (fun _ => true) true n2 2 (([c1, c2, c3, c4].drop 3).take (Tryd.prog.cellsOf 2)) = some z3 := k3
  rw [cellsCi] at k0' k1' k2' k3'
  obtain ⟨x0, x1, x2, n3, _, _, l0, l1, l2⟩ := trod_struct3 Tryd.underlying26 e3
  have l0' : DataW.trod enc Tryd.prog w 0 (fun _ => true) true n3 2 (([c6, c7, c8].drop 0).take (Tryd.prog.cellsOf 2)) = some x0 := l0
  have l1' : DataW.trod enc Tryd.prog w 0 (fun _ => true) true n3 2 (([c6, c7, c8].drop 1).take (Tryd.prog.cellsOf 2)) = some x1 := l1
  have l2' : DataW.trod enc Tryd.prog w 0 (fun _ => true) true n3 9 (([c6, c7, c8].drop 2).take (Tryd.prog.cellsOf 9)) = some x2 := l2
  rw [cellsCi] at l0' l1'
  rw [cellsCs] at l2'
  obtain ⟨i0, q0, _, _⟩ := DataW.trod_int Tryd.underlying2 e0
  obtain ⟨i4, q4, _, _⟩ := DataW.trod_int Tryd.underlying2 e4
  obtain ⟨i5, q5, _, _⟩ := DataW.trod_int Tryd.underlying2 e5
  obtain ⟨j0, p0, _, _⟩ := DataW.trod_int Tryd.underlying2 k0'
  obtain ⟨j1, p1, _, _⟩ := DataW.trod_int Tryd.underlying2 k1'
  obtain ⟨j2, p2, _, _⟩ := DataW.trod_int Tryd.underlying2 k2'
  obtain ⟨j3, p3, _, _⟩ := DataW.trod_int Tryd.underlying2 k3'
  obtain ⟨f0, r0, _, _⟩ := DataW.trod_int Tryd.underlying2 l0'
  obtain ⟨f1, r1, _, _⟩ := DataW.trod_int Tryd.underlying2 l1'
  obtain ⟨f2, r2, _, hl2⟩ := DataW.trod_string Tryd.underlying9 l2'
  simp at q0 q4 q5 p0 p1 p2 p3 r0 r1 r2
  subst q0 q4 q5 p0 p1 p2 p3 r0 r1 r2
  have hc : ∃ a len cap, c5 = .slice a len cap := by
    rcases open_slice Tryd.underlying24 e2' with ⟨hcs, _⟩ | ⟨a', l, c, m, nn, D, Pl, hcs, _⟩
    · simp at hcs
      exact ⟨_, _, _, hcs⟩
    · simp at hcs
      exact ⟨_, _, _, hcs⟩
  obtain ⟨a, len, cap, rfl⟩ := hc
  obtain ⟨S, hl, hS, hm⟩ := open_dirs e2'
  exact ⟨S, a, len, cap, i0, j0, j1, j2, j3, f0, f1, i4, i5, f2, rfl, hl, hS, hm, hl2⟩
theorem lit_i64 {n : Int} (h : (Lit.int .i64 n).wf = true) : -9223372036854775808 ≤ n ∧ n ≤ 9223372036854775807 := by
  have h' : (decide (IntKind.i64.min ≤ n) && decide (n ≤ IntKind.i64.max)) = true := h
  rw [Bool.and_eq_true, decide_eq_true_eq, decide_eq_true_eq] at h'
  have e1 : IntKind.i64.min = -9223372036854775808 := by decide
  have e2 : IntKind.i64.max = 9223372036854775807 := by decide
  rw [e1, e2] at h'
  exact h'
set_option maxRecDepth 100000 in
theorem open_command2 {H : Type} {enc : TypeId × Value → H} {w : World} {r : Reach} {b0 : Nat} {v : Value} {d : DataW H} {p : List MemPlace}
    (hv : Value.okWide Tryd.prog w r b0 28 v) (h : DataW.Trod enc Tryd.prog w 0 (fun _ => true) true 28 v d p) :
    ∃ (S : List D3) (a : Option Addr) (len cap : Nat) (kind A B C D wd ht lv fo : Int) (px : ByteArray), v = .agg #[.int .i64 kind, .int .i64 A, .int .i64 B, .int .i64 C, .int .i64 D, .slice a len cap, .int .i64 wd, .int .i64 ht, .string px, .int .i64 lv, .int .i64 fo] ∧ S.length = len ∧ Dirs w a S len ∧ len ≤ maxLen ∧ px.size ≤ maxLen ∧ (-9223372036854775808 ≤ kind ∧ kind ≤ 9223372036854775807) := by
  obtain ⟨cs, rfl, hsz⟩ := okWide_struct Tryd.underlying28 hv
  obtain ⟨c0, c1, c2, c3, c4, c5, c6, c7, c8, c9, c10, rfl⟩ := array11 (hsz.trans cellsCm)
  obtain ⟨fuel, hf⟩ := h
  have hf' : DataW.trod enc Tryd.prog w 0 (fun _ => true) true fuel 28 [c0, c1, c2, c3, c4, c5, c6, c7, c8, c9, c10] = some (d, p) := by simpa [Value.cells] using hf
  obtain ⟨y0, y1, y2, y3, y4, y5, n, g0, g1, g2, g3, g4, g5⟩ := trod_struct6C Tryd.underlying28 hf'
  have e0 : DataW.trod enc Tryd.prog w 0 (fun _ => true) true n 2 (([c0, c1, c2, c3, c4, c5, c6, c7, c8, c9, c10].drop 0).take (Tryd.prog.cellsOf 2)) = some y0 := g0
  have e1 : DataW.trod enc Tryd.prog w 0 (fun _ => true) true n 23 (([c0, c1, c2, c3, c4, c5, c6, c7, c8, c9, c10].drop 1).take (Tryd.prog.cellsOf 23)) = some y1 := g1
  have e2 : DataW.trod enc Tryd.prog w 0 (fun _ => true) true n 24 (([c0, c1, c2, c3, c4, c5, c6, c7, c8, c9, c10].drop 5).take (Tryd.prog.cellsOf 24)) = some y2 := g2
  have e3 : DataW.trod enc Tryd.prog w 0 (fun _ => true) true n 26 (([c0, c1, c2, c3, c4, c5, c6, c7, c8, c9, c10].drop 6).take (Tryd.prog.cellsOf 26)) = some y3 := g3
  have e4 : DataW.trod enc Tryd.prog w 0 (fun _ => true) true n 2 (([c0, c1, c2, c3, c4, c5, c6, c7, c8, c9, c10].drop 9).take (Tryd.prog.cellsOf 2)) = some y4 := g4
  have e5 : DataW.trod enc Tryd.prog w 0 (fun _ => true) true n 2 (([c0, c1, c2, c3, c4, c5, c6, c7, c8, c9, c10].drop 10).take (Tryd.prog.cellsOf 2)) = some y5 := g5
  rw [cellsCd] at e2
  rw [cellsCi] at e0 e4 e5
  rw [cellsCt] at e1
  rw [cellsCf] at e3
  clear g0 g1 g2 g3 g4 g5
  have e2' : DataW.trod enc Tryd.prog w 0 (fun _ => true) true n 24 [c5] = some y2 := e2
  obtain ⟨z0, z1, z2, z3, n2, _, _, k0, k1, k2, k3⟩ := trod_struct4 Tryd.underlying23 e1
  have k0' : DataW.trod enc Tryd.prog w 0 (fun _ => true) true n2 2 (([c1, c2, c3, c4].drop 0).take (Tryd.prog.cellsOf 2)) = some z0 := k0
  have k1' : DataW.trod enc Tryd.prog w 0 (fun _ => true) true n2 2 (([c1, c2, c3, c4].drop 1).take (Tryd.prog.cellsOf 2)) = some z1 := k1
  have k2' : DataW.trod enc Tryd.prog w 0 (fun _ => true) true n2 2 (([c1, c2, c3, c4].drop 2).take (Tryd.prog.cellsOf 2)) = some z2 := k2
  have k3' : DataW.trod enc Tryd.prog w 0 (fun _ => true) true n2 2 (([c1, c2, c3, c4].drop 3).take (Tryd.prog.cellsOf 2)) = some z3 := k3
  rw [cellsCi] at k0' k1' k2' k3'
  obtain ⟨x0, x1, x2, n3, _, _, l0, l1, l2⟩ := trod_struct3 Tryd.underlying26 e3
  have l0' : DataW.trod enc Tryd.prog w 0 (fun _ => true) true n3 2 (([c6, c7, c8].drop 0).take (Tryd.prog.cellsOf 2)) = some x0 := l0
  have l1' : DataW.trod enc Tryd.prog w 0 (fun _ => true) true n3 2 (([c6, c7, c8].drop 1).take (Tryd.prog.cellsOf 2)) = some x1 := l1
  have l2' : DataW.trod enc Tryd.prog w 0 (fun _ => true) true n3 9 (([c6, c7, c8].drop 2).take (Tryd.prog.cellsOf 9)) = some x2 := l2
  rw [cellsCi] at l0' l1'
  rw [cellsCs] at l2'
  obtain ⟨i0, q0, _, hwf⟩ := DataW.trod_int Tryd.underlying2 e0
  obtain ⟨i4, q4, _, _⟩ := DataW.trod_int Tryd.underlying2 e4
  obtain ⟨i5, q5, _, _⟩ := DataW.trod_int Tryd.underlying2 e5
  obtain ⟨j0, p0, _, _⟩ := DataW.trod_int Tryd.underlying2 k0'
  obtain ⟨j1, p1, _, _⟩ := DataW.trod_int Tryd.underlying2 k1'
  obtain ⟨j2, p2, _, _⟩ := DataW.trod_int Tryd.underlying2 k2'
  obtain ⟨j3, p3, _, _⟩ := DataW.trod_int Tryd.underlying2 k3'
  obtain ⟨f0, r0, _, _⟩ := DataW.trod_int Tryd.underlying2 l0'
  obtain ⟨f1, r1, _, _⟩ := DataW.trod_int Tryd.underlying2 l1'
  obtain ⟨f2, r2, _, hl2⟩ := DataW.trod_string Tryd.underlying9 l2'
  simp at q0 q4 q5 p0 p1 p2 p3 r0 r1 r2
  subst q0 q4 q5 p0 p1 p2 p3 r0 r1 r2
  have hc : ∃ a len cap, c5 = .slice a len cap := by
    rcases open_slice Tryd.underlying24 e2' with ⟨hcs, _⟩ | ⟨a', l, c, m, nn, D, Pl, hcs, _⟩
    · simp at hcs
      exact ⟨_, _, _, hcs⟩
    · simp at hcs
      exact ⟨_, _, _, hcs⟩
  obtain ⟨a, len, cap, rfl⟩ := hc
  obtain ⟨S, hl, hS, hm⟩ := open_dirs e2'
  exact ⟨S, a, len, cap, i0, j0, j1, j2, j3, f0, f1, i4, i5, f2, rfl, hl, hS, hm, hl2, lit_i64 hwf⟩
end Go.Proofs.YtnffnjljjecphaaDoor
