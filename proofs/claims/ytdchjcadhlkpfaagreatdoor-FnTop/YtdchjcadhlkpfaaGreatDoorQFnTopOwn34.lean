/- Several texts in one: LkB. -/
import Derived.Test.YtdchjcadhlkpfaaGreatDoorQFnTopOwn21
import Derived.Test.YtdchjcadhlkpfaaGreatDoorQFnTopOwn30
import Derived.Test.YtdchjcadhlkpfaaGreatDoorQFnTopOwn33
import Derived.Test.YtdchjcadhlkpfaaGreatDoorQFnTopOwn4
namespace Go.Proofs.YtdchjcadhlkpfaaGreatDoor
set_option linter.unusedVariables false
set_option linter.unusedSimpArgs false
set_option maxRecDepth 100000
set_option maxHeartbeats 8000000
section
open Go.RowKit Go.Sort
def aR (L : List St) (S : List D3) : T4 × Int := if bg L S = 0 then fK L S (aV L S) else ((0, 0, 0, 0), bg L S)
def eo (t : Tk) (S : List D3) : Tk :=
 if t.mode ≠ 0 ∧ 2 ≤ aP (bn t.L t.A t.B t.C t.D S) then pN { t with fr := t.fr + 1 } t.A t.B t.C t.D
 else if (aR t.L S).2 = 0 then pN { t with fr := t.fr + 1 } (aR t.L S).1.1 (aR t.L S).1.2.1 (aR t.L S).1.2.2.1 (aR t.L S).1.2.2.2
 else aY { t with fr := t.fr + 1 }
theorem rQ {w : World} {lo hi n : Nat} {v : Value} {ids : List Int} (hl : ids.length = n) (h : ie w 2 1 lo hi n v (fun j => .int .i64 (ids.getD j 0))) : ∃ a k, v = .slice a n k ∧ fR w a ids n := by
 rcases h with ⟨rfl, a, k, rfl⟩ | ⟨g, k, rfl, _, _, hr⟩
 ·exact ⟨a, k, rfl, .inl rfl⟩
 ·exact ⟨_, k, rfl, iC hr⟩
theorem nJ (L : List St) (S : List D3) (ar br : Option Addr) (cr dr : Nat) (a b c d : Int) (p : Addr) (w : World) (hn : L.length ≤ 1048576) (hcap : L.length ≤ cr) (hc9 : cr ≤ 9223372036854775807) (hn2 : S.length ≤ 1048576) (hcap2 : S.length ≤ dr) (hd9 : dr ≤ 9223372036854775807) (hS : aL w ar L L.length) (hD : bG w br S S.length) (hE : aW p w) :
  Calls Tryz.prog 174 #[.agg #[.slice ar L.length cr], .agg #[.int .i64 a, .int .i64 b, .int .i64 c, .int .i64 d], .slice br S.length dr] w fun e w' => e = .returned (.int .i64 (aP (bn L a b c d S) : Int)) ∧ Below w.heap.size w w' := by
 have B0 := yz (aH w (.cells #[.slice ar L.length cr] 128) (.cells #[.int .i64 a, .int .i64 b, .int .i64 c, .int .i64 d] 43))
 have cM := yz (jx L S ar br cr dr a b c d p _ hn hcap hc9 hn2 hcap2 hd9 (hS.kept (yy B0)) (hD.kept (yy B0)) (hE.kept (yy B0)))
 have hl := rk L a b c d S
 have HN := yz (fun (W : World) (x : Option Addr) (k : Nat) h => de (bn L a b c d S) x k W (by omega) h)
 clear hS hD hE
 go_enter Tryz.func174, Tryz.ntmps174
 go_wp2_with fail
 refine (yy cM).mono ?_
 rintro e w1 ⟨⟨v, rfl, hp⟩, hx⟩
 obtain ⟨x, k, rfl, hv⟩ := rQ rfl hp
 have B1 := yz (ak (yy B0) hx)
 have cN := yz (yy HN w1 x k hv)
 generalize (bn L a b c d S).length = m at *
 clear hx hp hv B0 cM HN
 go_wp2_with fail
 refine (yy cN).mono ?_
 rintro e w2 ⟨rfl, hw⟩
 rw [hw]
 clear hw w2
 go_wp2_with fail
 go_ret
 exact ⟨rfl, yy B1⟩
theorem rt {w' : World} {B : Nat} {ids : List Int} {cnt code : Int} {e : Ending} (h : ux w' B ids cnt code e) : ∃ a k, e = .returned (.agg #[.slice a ids.length k, .int .i64 cnt, .int .i64 code]) ∧ fR w' a ids ids.length := by
 obtain ⟨v, he, h⟩ := h
 rcases h with ⟨h0, rfl⟩ | ⟨g, rfl, _, hr⟩
 ·exact ⟨none, 0, by rw [he, h0]; rfl, .inl (by rw [h0]; rfl)⟩
 ·exact ⟨_, _, he, iC hr⟩
theorem li (T : Array Value) (X : World) (b : Nat) (p q r s k : Int) (hT : T.getD 4 undef = .pointer (some ⟨b, 0, none⟩)) (h : Blk X b [.int .i64 p, .int .i64 q, .int .i64 r, .int .i64 s, .int .i64 k] 108) : (results Tryz.f176 T).run Tryz.prog X = .ok (.agg #[.int .i64 p, .int .i64 q, .int .i64 r, .int .i64 s, .int .i64 k]) X := by
 obtain ⟨h0, h1, h2, h3, h4⟩ := mY (h)
 simp only [Array.getD_eq_getD_getElem?] at hT
 simp [results, Tryz.results176, go_sem, hT, h0, h1, h2, h3, h4]
theorem ot (L : List St) (S : List D3) (ar br : Option Addr) (cr dr : Nat) (p : Addr) (w : World) (hn : L.length ≤ 1048576) (hcap : L.length ≤ cr) (hc9 : cr ≤ 9223372036854775807) (hn2 : S.length ≤ 1048576) (hcap2 : S.length ≤ dr) (hd9 : dr ≤ 9223372036854775807) (hS : aL w ar L L.length) (hD : bG w br S S.length) (hA : ∀ y, ar = some y → y.block < w.heap.size) (hB : ∀ y, br = some y → y.block < w.heap.size) (hE : aW p w) :
  Calls Tryz.prog 176 #[.agg #[.slice ar L.length cr], .slice br S.length dr] w fun e w' => e = .returned (.agg #[.int .i64 (aR L S).1.1, .int .i64 (aR L S).1.2.1, .int .i64 (aR L S).1.2.2.1, .int .i64 (aR L S).1.2.2.2, .int .i64 (aR L S).2]) ∧ Below w.heap.size w w' := by
 have B0 := yz (aH w (.cells #[.slice ar L.length cr] 128) (.cells #[.int .i64 0, .int .i64 0, .int .i64 0, .int .i64 0, .int .i64 0] 108))
 have A0 := yz ((au w [.slice ar L.length cr] 128).alloc (.cells #[.int .i64 0, .int .i64 0, .int .i64 0, .int .i64 0, .int .i64 0] 108))
 have R0 := yz (by simpa using au (w.alloc (.cells #[.slice ar L.length cr] 128)) [.int .i64 0, .int .i64 0, .int .i64 0, .int .i64 0, .int .i64 0] 108 : Blk ((w.alloc (.cells #[.slice ar L.length cr] 128)).alloc (.cells #[.int .i64 0, .int .i64 0, .int .i64 0, .int .i64 0, .int .i64 0] 108)) (w.heap.size + 1) [.int .i64 0, .int .i64 0, .int .i64 0, .int .i64 0, .int .i64 0] 108)
 have hl0 := (yy B0).size
 have cI := yz (gZ L S ar br cr dr p _ hn hn2 hcap hc9 hcap2 hd9 (hS.kept (yy B0)) (hD.kept (yy B0)) (fun y e => Nat.lt_of_lt_of_le (hA y e) hl0) (fun y e => Nat.lt_of_lt_of_le (hB y e) hl0) (hE.kept (yy B0)))
 have hid := oY L S
 have cF := yz (fun (W : World) (x : Option Addr) (k : Nat) (h : Below w.heap.size w W) hN => jv L S (aV L S) ar br x cr dr k p W hn hcap hc9 hn2 hcap2 hd9 (by omega) (hS.kept h) (hD.kept h) hN (hE.kept h))
 have hY : bg L S = 0 → Hid (aR L S = fK L S (aV L S)) := fun h => yz (by unfold aR; rw [if_pos h])
 have hN : bg L S ≠ 0 → Hid (aR L S = ((0, 0, 0, 0), bg L S)) := fun h => yz (by unfold aR; rw [if_neg h])
 clear hS hD hE hl0 hA hB
 go_enter Tryz.func176, Tryz.ntmps176
 go_wp2_with fail
 refine (yy cI).mono ?_
 rintro e w1 ⟨hO, hx⟩
 obtain ⟨x, k, rfl, hv⟩ := rt hO
 generalize bg L S = kd at *
 generalize dl L S = ct at *
 have Z := an w1 (.cells #[.slice x (aV L S).length k, .int .i64 ct, .int .i64 kd] 83)
 have B1 := yz (ak (ak (yy B0) hx) Z)
 have A1 := yz (((yy A0).kept hx).kept Z)
 have R1 := yz (((yy R0).kept hx).kept Z)
 have I1 := yz (au w1 [.slice x (aV L S).length k, .int .i64 ct, .int .i64 kd] 83)
 have N1 := yz (hv.kept Z)
 clear hx hO hv Z B0 A0 R0 cI
 by_cases h0 : kd = 0
 ·have HO := hY h0
  clear hY hN
  have cF2 := yz (yy cF _ x k (yy B1) (yy N1))
  rw [← yy HO] at cF2
  clear cF N1 HO
  obtain ⟨⟨⟨t1, t2, t3, t4⟩, tc⟩, htv⟩ : ∃ z, aR L S = z := ⟨_, rfl⟩
  rw [htv] at cF2
  have HTV := yz htv
  clear htv
  have cF3 : Hid (Calls Tryz.prog 191 #[.slice ar L.length cr, .slice br S.length dr, .slice x (aV L S).length k] (w1.alloc (.cells #[.slice x (aV L S).length k, .int .i64 ct, .int .i64 kd] 83)) fun e w' => e = .returned (.agg #[.int .i64 t1, .int .i64 t2, .int .i64 t3, .int .i64 t4, .int .i64 tc]) ∧ Below (w1.alloc (.cells #[.slice x (aV L S).length k, .int .i64 ct, .int .i64 kd] 83)).heap.size (w1.alloc (.cells #[.slice x (aV L S).length k, .int .i64 ct, .int .i64 kd] 83)) w') := cF2
  clear cF2
  generalize (aV L S).length = nI at *
  have a0 := (yy A1).cell 0 _ rfl
  obtain ⟨i0, i1, i2⟩ := jD (yy I1)
  subst h0
  go_wp2_with fail
  clear a0 i0 i1 i2
  refine (yy cF3).mono ?_
  rintro e w2 ⟨rfl, hx⟩
  have B2 := yz (ak (yy B1) hx)
  have R2 := yz ((yy R1).kept hx)
  clear hx
  obtain ⟨r0, r1, r2, r3, r4⟩ := mY (yy R2)
  obtain ⟨g0, g1, g2, g3, g4⟩ := rK (yy R2)
  go_wp2_with fail
  clear r0 r1 r2 r3 r4 g0 g1 g2 g3 g4
  rw [yy HTV]
  refine bodyPost_ret (v := .agg #[.int .i64 t1, .int .i64 t2, .int .i64 t3, .int .i64 t4, .int .i64 tc]) ?_ rfl ⟨rfl, ?_⟩
  ·exact li _ _ (w.heap.size + 1) _ _ _ _ _ rfl ((((((yy R2).set 0 _).set 1 _).set 2 _).set 3 _).set 4 _)
  ·iterate 5 (refine aO ?_ (show w.heap.size ≤ w.heap.size + 1 by omega) _ _)
   exact yy B2
 ·have HO := hN h0
  clear hY hN cF
  generalize (aV L S).length = nI at *
  obtain ⟨i0, i1, i2⟩ := jD (yy I1)
  obtain ⟨r0, r1, r2, r3, r4⟩ := mY (yy R1)
  obtain ⟨g0, g1, g2, g3, g4⟩ := rK (yy R1)
  go_wp2_with fail
  clear r0 r1 r2 r3 r4 g0 g1 g2 g3 g4 i0 i1 i2
  rw [yy HO]
  refine bodyPost_ret (v := .agg #[.int .i64 0, .int .i64 0, .int .i64 0, .int .i64 0, .int .i64 kd]) ?_ rfl ⟨rfl, ?_⟩
  ·exact li _ _ (w.heap.size + 1) _ _ _ _ _ rfl ((((((yy R1).set 0 _).set 1 _).set 2 _).set 3 _).set 4 _)
  ·iterate 5 (refine aO ?_ (show w.heap.size ≤ w.heap.size + 1 by omega) _ _)
   exact yy B1
theorem dk (T : Array Value) (X : World) (b : Nat) (v : Value) (lim mode A B C D coast fr : Int) (hT : T.getD 4 undef = .pointer (some ⟨b, 0, none⟩)) (h : bN X b v lim mode A B C D coast fr) : (results Tryz.f161 T).run Tryz.prog X = .ok (.agg #[v, .int .i64 lim, .int .i64 mode, .int .i64 A, .int .i64 B, .int .i64 C, .int .i64 D, .int .i64 coast, .int .i64 fr]) X := by
 obtain ⟨h0, h1, h2, h3, h4, h5, h6, h7, h8⟩ := h
 simp only [Array.getD_eq_getD_getElem?] at hT
 simp [results, Tryz.results161, go_sem, hT, h0, h1, h2, h3, h4, h5, h6, h7, h8]
theorem gl (T : Array Value) (X : World) (b : Nat) (v : Value) (lim mode A B C D coast fr code : Int) (hT : T.getD 4 undef = .pointer (some ⟨b, 0, none⟩)) (h : TkO X b v lim mode A B C D coast fr code) : (results Tryz.f136 T).run Tryz.prog X = .ok (.agg #[v, .int .i64 lim, .int .i64 mode, .int .i64 A, .int .i64 B, .int .i64 C, .int .i64 D, .int .i64 coast, .int .i64 fr, .int .i64 code]) X := by
 obtain ⟨⟨h0, h1, h2, h3, h4, h5, h6, h7, h8⟩, h9⟩ := h
 simp only [Array.getD_eq_getD_getElem?] at hT
 simp [results, Tryz.results136, go_sem, hT, h0, h1, h2, h3, h4, h5, h6, h7, h8, h9]
end
end Go.Proofs.YtdchjcadhlkpfaaGreatDoor
