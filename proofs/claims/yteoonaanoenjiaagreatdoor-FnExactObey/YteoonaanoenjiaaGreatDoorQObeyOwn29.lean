/- Several texts in one: SkyW, CmW, ObW, ModW. -/
import Derived.Test.YteoonaanoenjiaaGreatDoorRows
import Derived.Deep.Slices
import Derived.Deep.Strs
import Derived.Stop.LaidErr
import Derived.LaidHandle
import Derived.LaidMore
import Derived.ProofKit
import Derived.Lib.SmallJoins
import Derived.ShutString
import Derived.Test.YteoonaanoenjiaaGreatDoorQObeyOwn7
import Derived.Test.YteoonaanoenjiaaGreatDoorQObeyOwn23
import Derived.Test.YteoonaanoenjiaaGreatDoorQObeyOwn12
import Derived.Test.YteoonaanoenjiaaGreatDoorQObeyOwn16
namespace Go.Proofs.YteoonaanoenjiaaGreatDoor
open Go.RowKit Go.Deep Go.ChangeShapes
set_option linter.unusedVariables false
theorem star_ptr : "*" ++ "errors.errorString" = "*errors.errorString" := by decide
theorem rowE (u : TypeId) (h : Tryz.prog.typeName? 3 u = some "*errors.errorString") : u = 309 :=
  typeName_ptr_named (nm := "errors.errorString") (by rw [star_ptr]; kernel_rfl) (by kernel_rfl) (by decide) u (by rw [star_ptr]; exact h)
theorem errNamed : Tryz.prog.globalNamed "loop.example/g00577/impl.errNoSky" = some 1 := by kernel_rfl
theorem errType : (Tryz.prog.globals[1]?).map (·.type) = some 129 := by kernel_rfl
theorem errSky_of_var {W : World} {p : Addr} (hv : W.var? Tryz.prog "loop.example/g00577/impl.errNoSky" = some #[.iface 309 (.pointer (some p))]) : ErrSky p W := by
  unfold ErrSky
  rw [World.var?_cell errNamed hv 0]
  rfl
theorem stA_range (n : Nat) (f : Nat → St) {i : Nat} (h : i < n) : stA ((List.range n).map f) i = f i := by
  unfold stA
  rw [List.getD_eq_getElem?_getD, List.getElem?_map, List.getElem?_range h]
  rfl
theorem cellsS : Tryz.prog.cellsOf 117 = 4 := by kernel_rfl
theorem cellsV3 : Tryz.prog.cellsOf 115 = 3 := by kernel_rfl
theorem cellsI : Tryz.prog.cellsOf 2 = 1 := by kernel_rfl
theorem spot_none {w : World} {x : Addr} {v : Value} (h : w.cell? x = some v) : x.spot = none := by
  cases hs : x.spot with
  | none => rfl
  | some k =>
    exfalso
    unfold World.cell? at h
    rw [hs] at h
    revert h
    split <;> simp
set_option maxRecDepth 100000 in
theorem open_stars {H : Type} {enc : TypeId × Value → H} {w : World} {fuel : Nat} {a : Option Addr} {len cap : Nat} {x : DataW H × List MemPlace}
    (h : DataW.trod enc Tryz.prog w 0 (fun _ => true) true fuel 22 [.slice a len cap] = some x) : ∃ L : List St, L.length = len ∧ Stars w a L len ∧ len ≤ maxLen := by
  rcases open_slice Tryz.underlying22 h with ⟨hcs, _⟩ | ⟨a', l, c, m, n, D, Pl, hcs, _, hl, hm, hmm, _, hel⟩
  · simp at hcs
    obtain ⟨rfl, rfl, rfl⟩ := hcs
    exact ⟨[], rfl, .inl rfl, Nat.zero_le _⟩
  · simp at hcs
    obtain ⟨rfl, rfl, rfl⟩ := hcs
    have hlm : len ≤ m := by rw [hmm]; simp; exact hl
    have each : ∀ i, i < len → ∃ s : St, w.cell? (a'.add (i * 4)) = some (.int .i64 s.1) ∧ w.cell? (a'.add (i * 4 + 1)) = some (.int .i64 s.2.1) ∧ w.cell? (a'.add (i * 4 + 2)) = some (.int .i64 s.2.2.1) ∧ w.cell? (a'.add (i * 4 + 3)) = some (.int .i64 s.2.2.2) := by
      intro i hi
      obtain ⟨cs, h1, h2⟩ := hel i (by omega)
      rw [cellsS] at h1
      obtain ⟨_, hlen, hcell⟩ := World.cells?_some h1
      obtain ⟨y0, y1, n1, _, _, g0, g1⟩ := trod_struct2 Tryz.underlying117 h2
      match cs, hlen with
      | [v0, v1, v2, v3], _ =>
        have g0' : DataW.trod enc Tryz.prog w 0 (fun _ => true) true n1 2 (([v0, v1, v2, v3].drop 0).take (Tryz.prog.cellsOf 2)) = some y0 := g0
        have g1' : DataW.trod enc Tryz.prog w 0 (fun _ => true) true n1 115 (([v0, v1, v2, v3].drop 1).take (Tryz.prog.cellsOf 115)) = some y1 := g1
        rw [cellsI] at g0'
        rw [cellsV3] at g1'
        obtain ⟨z0, z1, z2, n2, _, _, k0, k1, k2⟩ := trod_struct3 Tryz.underlying115 g1'
        have k0' : DataW.trod enc Tryz.prog w 0 (fun _ => true) true n2 2 (([v1, v2, v3].drop 0).take (Tryz.prog.cellsOf 2)) = some z0 := k0
        have k1' : DataW.trod enc Tryz.prog w 0 (fun _ => true) true n2 2 (([v1, v2, v3].drop 1).take (Tryz.prog.cellsOf 2)) = some z1 := k1
        have k2' : DataW.trod enc Tryz.prog w 0 (fun _ => true) true n2 2 (([v1, v2, v3].drop 2).take (Tryz.prog.cellsOf 2)) = some z2 := k2
        rw [cellsI] at k0' k1' k2'
        obtain ⟨i0, e0, _, _⟩ := DataW.trod_int Tryz.underlying2 g0'
        obtain ⟨i1, e1, _, _⟩ := DataW.trod_int Tryz.underlying2 k0'
        obtain ⟨i2, e2, _, _⟩ := DataW.trod_int Tryz.underlying2 k1'
        obtain ⟨i3, e3, _, _⟩ := DataW.trod_int Tryz.underlying2 k2'
        simp at e0 e1 e2 e3
        subst e0 e1 e2 e3
        have c0 := hcell 0 (by omega)
        have c1 := hcell 1 (by omega)
        have c2 := hcell 2 (by omega)
        have c3 := hcell 3 (by omega)
        rw [add_add] at c0 c1 c2 c3
        exact ⟨(i0, i1, i2, i3), by simpa using c0, by simpa using c1, by simpa using c2, by simpa using c3⟩
    obtain ⟨f, hf⟩ := choose_lt each
    refine ⟨(List.range len).map f, by simp, ?_, by omega⟩
    rcases Nat.eq_zero_or_pos len with h0 | h0
    · exact .inl h0
    · have hs : (a'.add (0 * 4)).spot = none := spot_none (hf 0 h0).1
      have hb : (a'.add (0 * 4)).block < w.heap.size := World.block_lt_of_cell? w _ (hf 0 h0).1
      obtain ⟨bx, ox, sx⟩ := a'
      have hs' : sx = none := by simpa [Addr.add] using hs
      subst hs'
      have hA : ∀ j, (⟨bx, ox, none⟩ : Addr).add j = ⟨bx, ox + j, none⟩ := fun j => by unfold Addr.add; split <;> simp_all
      refine .inr ⟨bx, ox, rfl, by simpa [Addr.add] using hb, fun i hi => ?_⟩
      obtain ⟨c0, c1, c2, c3⟩ := hf i hi
      rw [hA] at c0 c1 c2 c3
      rw [stA_range len f hi]
      exact ⟨c0, by rw [Nat.add_assoc]; exact c1, by rw [Nat.add_assoc]; exact c2, by rw [Nat.add_assoc]; exact c3⟩
end Go.Proofs.YteoonaanoenjiaaGreatDoor
namespace Go.Proofs.YteoonaanoenjiaaGreatDoor
open Go.ChangeShapes Go.WideShapes Go.ChangeAt Go.RowKit Go.Joins Go.Deep
set_option linter.unusedVariables false
theorem star_ptrC : "*" ++ "errors.errorString" = "*errors.errorString" := by decide
theorem rowC (u : TypeId) (h : Tryz.prog.typeName? 3 u = some "*errors.errorString") : u = 309 :=
  typeName_ptr_named (nm := "errors.errorString") (by rw [star_ptrC]; kernel_rfl) (by kernel_rfl) (by decide) u (by rw [star_ptrC]; exact h)
theorem cmdNamed : Tryz.prog.globalNamed "loop.example/g00577/impl.errNoCommand" = some 0 := by kernel_rfl
theorem cmdType : (Tryz.prog.globals[0]?).map (·.type) = some 129 := by kernel_rfl
theorem errCmd_of_var {W : World} {p : Addr} (hv : W.var? Tryz.prog "loop.example/g00577/impl.errNoCommand" = some #[.iface 309 (.pointer (some p))]) : ErrCmd p W := by
  unfold ErrCmd
  rw [World.var?_cell cmdNamed hv 0]
  rfl
theorem array11 {α : Type} {cs : Array α} (h : cs.size = 11) : ∃ c0 c1 c2 c3 c4 c5 c6 c7 c8 c9 c10, cs = #[c0, c1, c2, c3, c4, c5, c6, c7, c8, c9, c10] := by
  obtain ⟨l⟩ := cs
  match l, h with
  | [c0, c1, c2, c3, c4, c5, c6, c7, c8, c9, c10], _ => exact ⟨c0, c1, c2, c3, c4, c5, c6, c7, c8, c9, c10, rfl⟩
theorem trod_struct6C {H : Type} {enc : TypeId × Value → H} {P : Program} {w : World} {base : Nat} {spare : Nat → Bool} {held : Bool} {t : TypeId} {f0 f1 f2 f3 f4 f5 : Field} {fuel : Nat} {cs : List Value} {x : DataW H × List MemPlace} (ht : P.underlying t = some (.struct #[f0, f1, f2, f3, f4, f5])) (h : DataW.trod enc P w base spare held fuel t cs = some x) :
    ∃ y0 y1 y2 y3 y4 y5 n, DataW.trod enc P w base spare held n f0.type ((cs.drop f0.offset).take (P.cellsOf f0.type)) = some y0 ∧
      DataW.trod enc P w base spare held n f1.type ((cs.drop f1.offset).take (P.cellsOf f1.type)) = some y1 ∧ DataW.trod enc P w base spare held n f2.type ((cs.drop f2.offset).take (P.cellsOf f2.type)) = some y2 ∧
      DataW.trod enc P w base spare held n f3.type ((cs.drop f3.offset).take (P.cellsOf f3.type)) = some y3 ∧ DataW.trod enc P w base spare held n f4.type ((cs.drop f4.offset).take (P.cellsOf f4.type)) = some y4 ∧ DataW.trod enc P w base spare held n f5.type ((cs.drop f5.offset).take (P.cellsOf f5.type)) = some y5 := by
  obtain ⟨xs, n, _, rfl, hl, hlen, hf⟩ := DataW.trod_struct ht h
  match xs, hlen with
  | [y0, y1, y2, y3, y4, y5], _ => exact ⟨y0, y1, y2, y3, y4, y5, n, by simpa using hf 0 f0 rfl, by simpa using hf 1 f1 rfl, by simpa using hf 2 f2 rfl, by simpa using hf 3 f3 rfl, by simpa using hf 4 f4 rfl, by simpa using hf 5 f5 rfl⟩
theorem cellsCm : Tryz.prog.cellsOf 31 = 11 := by kernel_rfl
theorem cellsCt : Tryz.prog.cellsOf 24 = 4 := by kernel_rfl
theorem cellsCf : Tryz.prog.cellsOf 29 = 3 := by kernel_rfl
theorem cellsCd : Tryz.prog.cellsOf 27 = 1 := by kernel_rfl
theorem cellsCi : Tryz.prog.cellsOf 2 = 1 := by kernel_rfl
theorem cellsCs : Tryz.prog.cellsOf 9 = 1 := by kernel_rfl
set_option maxRecDepth 100000 in
theorem open_command {H : Type} {enc : TypeId × Value → H} {w : World} {r : Reach} {b0 : Nat} {v : Value} {d : DataW H} {p : List MemPlace}
    (hv : Value.okWide Tryz.prog w r b0 31 v) (h : DataW.Trod enc Tryz.prog w 0 (fun _ => true) true 31 v d p) :
    ∃ (S : List D3) (a : Option Addr) (len cap : Nat) (kind A B C D wd ht lv fo : Int) (px : ByteArray), v = .agg #[.int .i64 kind, .int .i64 A, .int .i64 B, .int .i64 C, .int .i64 D, .slice a len cap, .int .i64 wd, .int .i64 ht, .string px, .int .i64 lv, .int .i64 fo] ∧ S.length = len ∧ Dirs w a S len ∧ len ≤ maxLen ∧ px.size ≤ maxLen := by
  obtain ⟨cs, rfl, hsz⟩ := okWide_struct Tryz.underlying31 hv
  obtain ⟨c0, c1, c2, c3, c4, c5, c6, c7, c8, c9, c10, rfl⟩ := array11 (hsz.trans cellsCm)
  obtain ⟨fuel, hf⟩ := h
  have hf' : DataW.trod enc Tryz.prog w 0 (fun _ => true) true fuel 31 [c0, c1, c2, c3, c4, c5, c6, c7, c8, c9, c10] = some (d, p) := by simpa [Value.cells] using hf
  obtain ⟨y0, y1, y2, y3, y4, y5, n, g0, g1, g2, g3, g4, g5⟩ := trod_struct6C Tryz.underlying31 hf'
  have e0 : DataW.trod enc Tryz.prog w 0 (fun _ => true) true n 2 (([c0, c1, c2, c3, c4, c5, c6, c7, c8, c9, c10].drop 0).take (Tryz.prog.cellsOf 2)) = some y0 := g0
  have e1 : DataW.trod enc Tryz.prog w 0 (fun _ => true) true n 24 (([c0, c1, c2, c3, c4, c5, c6, c7, c8, c9, c10].drop 1).take (Tryz.prog.cellsOf 24)) = some y1 := g1
  have e2 : DataW.trod enc Tryz.prog w 0 (fun _ => true) true n 27 (([c0, c1, c2, c3, c4, c5, c6, c7, c8, c9, c10].drop 5).take (Tryz.prog.cellsOf 27)) = some y2 := g2
  have e3 : DataW.trod enc Tryz.prog w 0 (fun _ => true) true n 29 (([c0, c1, c2, c3, c4, c5, c6, c7, c8, c9, c10].drop 6).take (Tryz.prog.cellsOf 29)) = some y3 := g3
  have e4 : DataW.trod enc Tryz.prog w 0 (fun _ => true) true n 2 (([c0, c1, c2, c3, c4, c5, c6, c7, c8, c9, c10].drop 9).take (Tryz.prog.cellsOf 2)) = some y4 := g4
  have e5 : DataW.trod enc Tryz.prog w 0 (fun _ => true) true n 2 (([c0, c1, c2, c3, c4, c5, c6, c7, c8, c9, c10].drop 10).take (Tryz.prog.cellsOf 2)) = some y5 := g5
  rw [cellsCd] at e2
  rw [cellsCi] at e0 e4 e5
  rw [cellsCt] at e1
  rw [cellsCf] at e3
  clear g0 g1 g2 g3 g4 g5
  have e2' : DataW.trod enc Tryz.prog w 0 (fun _ => true) true n 27 [c5] = some y2 := e2
  obtain ⟨z0, z1, z2, z3, n2, _, _, k0, k1, k2, k3⟩ := trod_struct4 Tryz.underlying24 e1
  have k0' : DataW.trod enc Tryz.prog w 0 (fun _ => true) true n2 2 (([c1, c2, c3, c4].drop 0).take (Tryz.prog.cellsOf 2)) = some z0 := k0
  have k1' : DataW.trod enc Tryz.prog w 0 (fun _ => true) true n2 2 (([c1, c2, c3, c4].drop 1).take (Tryz.prog.cellsOf 2)) = some z1 := k1
  have k2' : DataW.trod enc Tryz.prog w 0 (fun _ => true) true n2 2 (([c1, c2, c3, c4].drop 2).take (Tryz.prog.cellsOf 2)) = some z2 := k2
  have k3' : DataW.trod enc Tryz.prog w 0 (fun _ => true) true n2 2 (([c1, c2, c3, c4].drop 3).take (Tryz.prog.cellsOf 2)) = some z3 := k3
  rw [cellsCi] at k0' k1' k2' k3'
  obtain ⟨x0, x1, x2, n3, _, _, l0, l1, l2⟩ := trod_struct3 Tryz.underlying29 e3
  have l0' : DataW.trod enc Tryz.prog w 0 (fun _ => true) true n3 2 (([c6, c7, c8].drop 0).take (Tryz.prog.cellsOf 2)) = some x0 := l0
  have l1' : DataW.trod enc Tryz.prog w 0 (fun _ => true) true n3 2 (([c6, c7, c8].drop 1).take (Tryz.prog.cellsOf 2)) = some x1 := l1
  have l2' : DataW.trod enc Tryz.prog w 0 (fun _ => true) true n3 9 (([c6, c7, c8].drop 2).take (Tryz.prog.cellsOf 9)) = some x2 := l2
  rw [cellsCi] at l0' l1'
  rw [cellsCs] at l2'
  obtain ⟨i0, q0, _, _⟩ := DataW.trod_int Tryz.underlying2 e0
  obtain ⟨i4, q4, _, _⟩ := DataW.trod_int Tryz.underlying2 e4
  obtain ⟨i5, q5, _, _⟩ := DataW.trod_int Tryz.underlying2 e5
  obtain ⟨j0, p0, _, _⟩ := DataW.trod_int Tryz.underlying2 k0'
  obtain ⟨j1, p1, _, _⟩ := DataW.trod_int Tryz.underlying2 k1'
  obtain ⟨j2, p2, _, _⟩ := DataW.trod_int Tryz.underlying2 k2'
  obtain ⟨j3, p3, _, _⟩ := DataW.trod_int Tryz.underlying2 k3'
  obtain ⟨f0, r0, _, _⟩ := DataW.trod_int Tryz.underlying2 l0'
  obtain ⟨f1, r1, _, _⟩ := DataW.trod_int Tryz.underlying2 l1'
  obtain ⟨f2, r2, _, hl2⟩ := DataW.trod_string Tryz.underlying9 l2'
  simp at q0 q4 q5 p0 p1 p2 p3 r0 r1 r2
  subst q0 q4 q5 p0 p1 p2 p3 r0 r1 r2
  have hc : ∃ a len cap, c5 = .slice a len cap := by
    rcases open_slice Tryz.underlying27 e2' with ⟨hcs, _⟩ | ⟨a', l, c, m, nn, D, Pl, hcs, _⟩
    · simp at hcs
      exact ⟨_, _, _, hcs⟩
    · simp at hcs
      exact ⟨_, _, _, hcs⟩
  obtain ⟨a, len, cap, rfl⟩ := hc
  obtain ⟨S, hl, hS, hm⟩ := open_dirs e2'
  exact ⟨S, a, len, cap, i0, j0, j1, j2, j3, f0, f1, i4, i5, f2, rfl, hl, hS, hm, hl2⟩
end Go.Proofs.YteoonaanoenjiaaGreatDoor
namespace Go.Proofs.YteoonaanoenjiaaGreatDoor
open Go.RowKit Go.Deep Go.ChangeShapes
set_option linter.unusedVariables false
def laidOb : List (String × DataW Unit) := [("loop.example/g00577/impl.errNoSky", Rows.laid_loop_example_g00577_impl_errNoSky), ("loop.example/g00577/impl.errNoCommand", Rows.laid_loop_example_g00577_impl_errNoCommand)]
theorem laidMet_tailO {P : Program} {x : String × DataW Unit} {l : List (String × DataW Unit)} {w : World} (h : laidMet P (x :: l) w) : laidMet P l w := by
  obtain ⟨ps, ⟨g, t, cs, f, p, q, hg, ht, hv, hd, hr, e⟩, hn, hrows⟩ := h
  subst e
  exact ⟨q, hr, (List.nodup_append.1 hn).2.1, fun b off hb => hrows b off (List.mem_append_right _ hb)⟩
theorem skyVar_head {W : World} {r : List (String × DataW Unit)} (h : laidMet Tryz.prog (("loop.example/g00577/impl.errNoSky", Rows.laid_loop_example_g00577_impl_errNoSky) :: r) W) : ∃ p, W.var? Tryz.prog "loop.example/g00577/impl.errNoSky" = some #[.iface 309 (.pointer (some p))] := by
  obtain ⟨a, s, hv, _⟩ := laid_sentinel h errNamed errType Tryz.underlying129 rowE Tryz.underlying309 Tryz.underlying329 rfl rfl Tryz.underlying9 (by kernel_rfl) (by kernel_rfl)
  exact ⟨a, hv⟩
theorem cmdVar_head {W : World} {r : List (String × DataW Unit)} (h : laidMet Tryz.prog (("loop.example/g00577/impl.errNoCommand", Rows.laid_loop_example_g00577_impl_errNoCommand) :: r) W) : ∃ p, W.var? Tryz.prog "loop.example/g00577/impl.errNoCommand" = some #[.iface 309 (.pointer (some p))] := by
  obtain ⟨a, s, hv, _⟩ := laid_sentinel h cmdNamed cmdType Tryz.underlying129 rowC Tryz.underlying309 Tryz.underlying329 rfl rfl Tryz.underlying9 (by kernel_rfl) (by kernel_rfl)
  exact ⟨a, hv⟩
theorem both_read {H : Type} (enc : TypeId × Value → H) {W : World} {p q : Addr} (hp : W.var? Tryz.prog "loop.example/g00577/impl.errNoSky" = some #[.iface 309 (.pointer (some p))]) (hq : W.var? Tryz.prog "loop.example/g00577/impl.errNoCommand" = some #[.iface 309 (.pointer (some q))]) (sp : Nat → Bool) :
    DataW.TrodVars enc Tryz.prog W sp ["loop.example/g00577/impl.errNoCommand", "loop.example/g00577/impl.errNoSky"] [tok enc (.iface 309 (.pointer (some q))), tok enc (.iface 309 (.pointer (some p)))] [.cell 0 0, .cell 1 0] :=
  vars_read2 enc cmdNamed cmdType Tryz.underlying129 hq trivial errNamed errType Tryz.underlying129 hp trivial sp
theorem ob_met (os : Os) (args : Array Value) : laidMetH Tryz.prog laidOb ((World.doorLaid Tryz.prog 400 os).forCall (fun _ _ => 0) ⟨#[], args, []⟩).memory :=
  laidMet_of_run' 8 (by kernel_rfl) (by kernel_rfl)
end Go.Proofs.YteoonaanoenjiaaGreatDoor
namespace Go.Proofs.YteoonaanoenjiaaGreatDoor
open Go.ChangeShapes Go.WideShapes Go.ChangeAt Go.RowKit Go.Joins Go.Deep
set_option linter.unusedVariables false
theorem array9 {α : Type} {cs : Array α} (h : cs.size = 9) : ∃ c0 c1 c2 c3 c4 c5 c6 c7 c8, cs = #[c0, c1, c2, c3, c4, c5, c6, c7, c8] := by
  obtain ⟨l⟩ := cs
  match l, h with
  | [c0, c1, c2, c3, c4, c5, c6, c7, c8], _ => exact ⟨c0, c1, c2, c3, c4, c5, c6, c7, c8, rfl⟩
theorem trod_struct6 {H : Type} {enc : TypeId × Value → H} {P : Program} {w : World} {base : Nat} {spare : Nat → Bool} {held : Bool} {t : TypeId} {f0 f1 f2 f3 f4 f5 : Field} {fuel : Nat} {cs : List Value} {x : DataW H × List MemPlace} (ht : P.underlying t = some (.struct #[f0, f1, f2, f3, f4, f5])) (h : DataW.trod enc P w base spare held fuel t cs = some x) :
    ∃ y0 y1 y2 y3 y4 y5 n, DataW.trod enc P w base spare held n f0.type ((cs.drop f0.offset).take (P.cellsOf f0.type)) = some y0 ∧
      DataW.trod enc P w base spare held n f1.type ((cs.drop f1.offset).take (P.cellsOf f1.type)) = some y1 ∧ DataW.trod enc P w base spare held n f2.type ((cs.drop f2.offset).take (P.cellsOf f2.type)) = some y2 ∧
      DataW.trod enc P w base spare held n f3.type ((cs.drop f3.offset).take (P.cellsOf f3.type)) = some y3 ∧ DataW.trod enc P w base spare held n f4.type ((cs.drop f4.offset).take (P.cellsOf f4.type)) = some y4 ∧ DataW.trod enc P w base spare held n f5.type ((cs.drop f5.offset).take (P.cellsOf f5.type)) = some y5 := by
  obtain ⟨xs, n, _, rfl, hl, hlen, hf⟩ := DataW.trod_struct ht h
  match xs, hlen with
  | [y0, y1, y2, y3, y4, y5], _ => exact ⟨y0, y1, y2, y3, y4, y5, n, by simpa using hf 0 f0 rfl, by simpa using hf 1 f1 rfl, by simpa using hf 2 f2 rfl, by simpa using hf 3 f3 rfl, by simpa using hf 4 f4 rfl, by simpa using hf 5 f5 rfl⟩
theorem cellsTk : Tryz.prog.cellsOf 26 = 9 := by kernel_rfl
theorem cellsTn : Tryz.prog.cellsOf 24 = 4 := by kernel_rfl
theorem cellsSl : Tryz.prog.cellsOf 22 = 1 := by kernel_rfl
set_option maxRecDepth 100000 in
theorem open_tracker {H : Type} {enc : TypeId × Value → H} {w : World} {r : Reach} {b0 : Nat} {v : Value} {d : DataW H} {p : List MemPlace}
    (hv : Value.okWide Tryz.prog w r b0 26 v) (h : DataW.Trod enc Tryz.prog w 0 (fun _ => true) true 26 v d p) :
    ∃ (L : List St) (a : Option Addr) (len cap : Nat) (lim mode A B C D coast fr : Int), v = .agg #[.slice a len cap, .int .i64 lim, .int .i64 mode, .int .i64 A, .int .i64 B, .int .i64 C, .int .i64 D, .int .i64 coast, .int .i64 fr] ∧ L.length = len ∧ Stars w a L len ∧ len ≤ maxLen := by
  obtain ⟨cs, rfl, hsz⟩ := okWide_struct Tryz.underlying26 hv
  obtain ⟨c0, c1, c2, c3, c4, c5, c6, c7, c8, rfl⟩ := array9 (hsz.trans cellsTk)
  obtain ⟨fuel, hf⟩ := h
  have hf' : DataW.trod enc Tryz.prog w 0 (fun _ => true) true fuel 26 [c0, c1, c2, c3, c4, c5, c6, c7, c8] = some (d, p) := by simpa [Value.cells] using hf
  obtain ⟨y0, y1, y2, y3, y4, y5, n, g0, g1, g2, g3, g4, g5⟩ := trod_struct6 Tryz.underlying26 hf'
  have e0 : DataW.trod enc Tryz.prog w 0 (fun _ => true) true n 22 (([c0, c1, c2, c3, c4, c5, c6, c7, c8].drop 0).take (Tryz.prog.cellsOf 22)) = some y0 := g0
  have e1 : DataW.trod enc Tryz.prog w 0 (fun _ => true) true n 2 (([c0, c1, c2, c3, c4, c5, c6, c7, c8].drop 1).take (Tryz.prog.cellsOf 2)) = some y1 := g1
  have e2 : DataW.trod enc Tryz.prog w 0 (fun _ => true) true n 2 (([c0, c1, c2, c3, c4, c5, c6, c7, c8].drop 2).take (Tryz.prog.cellsOf 2)) = some y2 := g2
  have e3 : DataW.trod enc Tryz.prog w 0 (fun _ => true) true n 24 (([c0, c1, c2, c3, c4, c5, c6, c7, c8].drop 3).take (Tryz.prog.cellsOf 24)) = some y3 := g3
  have e4 : DataW.trod enc Tryz.prog w 0 (fun _ => true) true n 2 (([c0, c1, c2, c3, c4, c5, c6, c7, c8].drop 7).take (Tryz.prog.cellsOf 2)) = some y4 := g4
  have e5 : DataW.trod enc Tryz.prog w 0 (fun _ => true) true n 2 (([c0, c1, c2, c3, c4, c5, c6, c7, c8].drop 8).take (Tryz.prog.cellsOf 2)) = some y5 := g5
  rw [cellsSl] at e0
  rw [cellsI] at e1 e2 e4 e5
  rw [cellsTn] at e3
  clear g0 g1 g2 g3 g4 g5
  have e0' : DataW.trod enc Tryz.prog w 0 (fun _ => true) true n 22 [c0] = some y0 := e0
  obtain ⟨z0, z1, z2, z3, n2, _, _, k0, k1, k2, k3⟩ := trod_struct4 Tryz.underlying24 e3
  have k0' : DataW.trod enc Tryz.prog w 0 (fun _ => true) true n2 2 (([c3, c4, c5, c6].drop 0).take (Tryz.prog.cellsOf 2)) = some z0 := k0
  have k1' : DataW.trod enc Tryz.prog w 0 (fun _ => true) true n2 2 (([c3, c4, c5, c6].drop 1).take (Tryz.prog.cellsOf 2)) = some z1 := k1
  have k2' : DataW.trod enc Tryz.prog w 0 (fun _ => true) true n2 2 (([c3, c4, c5, c6].drop 2).take (Tryz.prog.cellsOf 2)) = some z2 := k2
  have k3' : DataW.trod enc Tryz.prog w 0 (fun _ => true) true n2 2 (([c3, c4, c5, c6].drop 3).take (Tryz.prog.cellsOf 2)) = some z3 := k3
  rw [cellsI] at k0' k1' k2' k3'
  obtain ⟨i1, q1, _, _⟩ := DataW.trod_int Tryz.underlying2 e1
  obtain ⟨i2, q2, _, _⟩ := DataW.trod_int Tryz.underlying2 e2
  obtain ⟨i4, q4, _, _⟩ := DataW.trod_int Tryz.underlying2 e4
  obtain ⟨i5, q5, _, _⟩ := DataW.trod_int Tryz.underlying2 e5
  obtain ⟨j0, p0, _, _⟩ := DataW.trod_int Tryz.underlying2 k0'
  obtain ⟨j1, p1, _, _⟩ := DataW.trod_int Tryz.underlying2 k1'
  obtain ⟨j2, p2, _, _⟩ := DataW.trod_int Tryz.underlying2 k2'
  obtain ⟨j3, p3, _, _⟩ := DataW.trod_int Tryz.underlying2 k3'
  simp at q1 q2 q4 q5 p0 p1 p2 p3
  subst q1 q2 q4 q5 p0 p1 p2 p3
  have hc : ∃ a len cap, c0 = .slice a len cap := by
    rcases open_slice Tryz.underlying22 e0' with ⟨hcs, _⟩ | ⟨a', l, c, m, nn, D, Pl, hcs, _⟩
    · simp at hcs
      exact ⟨_, _, _, hcs⟩
    · simp at hcs
      exact ⟨_, _, _, hcs⟩
  obtain ⟨a, len, cap, rfl⟩ := hc
  obtain ⟨L, hl, hS, hm⟩ := open_stars e0'
  exact ⟨L, a, len, cap, i1, i2, j0, j1, j2, j3, i4, i5, rfl, hl, hS, hm⟩
end Go.Proofs.YteoonaanoenjiaaGreatDoor
