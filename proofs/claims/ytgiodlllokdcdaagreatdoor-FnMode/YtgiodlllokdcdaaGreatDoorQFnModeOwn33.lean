/- Several texts in one: LkB. -/
import Derived.Test.YtgiodlllokdcdaaGreatDoorQFnModeOwn10
import Derived.Test.YtgiodlllokdcdaaGreatDoorQFnModeOwn29
import Derived.Test.YtgiodlllokdcdaaGreatDoorQFnModeOwn32
import Derived.Test.YtgiodlllokdcdaaGreatDoorQFnModeOwn4
namespace Go.Proofs.YtgiodlllokdcdaaGreatDoor
set_option linter.unusedVariables false
set_option linter.unusedSimpArgs false
set_option maxRecDepth 100000
set_option maxHeartbeats 8000000
section
open Go.RowKit Go.Sort
def aP (L : List St) (S : List D3) : T4 × Int := if dg L S = 0 then fH L S (bB L S) else ((0, 0, 0, 0), dg L S)
def bS (t : Tk) (S : List D3) : Tk :=
 if t.mode ≠ 0 ∧ 2 ≤ aJ (aV t.L t.A t.B t.C t.D S) then uh { t with fr := t.fr + 1 } t.A t.B t.C t.D
 else if (aP t.L S).2 = 0 then uh { t with fr := t.fr + 1 } (aP t.L S).1.1 (aP t.L S).1.2.1 (aP t.L S).1.2.2.1 (aP t.L S).1.2.2.2
 else aQ { t with fr := t.fr + 1 }
theorem kg {w : World} {lo hi n : Nat} {v : Value} {ids : List Int} (hl : ids.length = n) (h : fK w 2 1 lo hi n v (fun j => .int .i64 (ids.getD j 0))) : ∃ a k, v = .slice a n k ∧ eP w a ids n := by
 rcases h with ⟨rfl, a, k, rfl⟩ | ⟨g, k, rfl, _, _, hr⟩
 ·exact ⟨a, k, rfl, .inl rfl⟩
 ·exact ⟨_, k, rfl, jw hr⟩
theorem pq (L : List St) (S : List D3) (ar br : Option Addr) (cr dr : Nat) (a b c d : Int) (p : Addr) (w : World) (hn : L.length ≤ 1048576) (hcap : L.length ≤ cr) (hc9 : cr ≤ 9223372036854775807) (hn2 : S.length ≤ 1048576) (hcap2 : S.length ≤ dr) (hd9 : dr ≤ 9223372036854775807) (hS : aH w ar L L.length) (hD : co w br S S.length) (hE : aY p w) :
  Calls Tryz.prog 64 #[.agg #[.slice ar L.length cr], .agg #[.int .i64 a, .int .i64 b, .int .i64 c, .int .i64 d], .slice br S.length dr] w fun e w' => e = .returned (.int .i64 (aJ (aV L a b c d S) : Int)) ∧ Below w.heap.size w w' := by
 have B0 := yz (aM w (.cells #[.slice ar L.length cr] 60) (.cells #[.int .i64 a, .int .i64 b, .int .i64 c, .int .i64 d] 25))
 have cM := yz (gz L S ar br cr dr a b c d p _ hn hcap hc9 hn2 hcap2 hd9 (hS.kept (yy B0)) (hD.kept (yy B0)) (hE.kept (yy B0)))
 have hl := nE L a b c d S
 have HN := yz (fun (W : World) (x : Option Addr) (k : Nat) h => ek (aV L a b c d S) x k W (by omega) h)
 clear hS hD hE
 go_enter Tryz.func64, Tryz.ntmps64
 go_wp2_with fail
 refine (yy cM).mono ?_
 rintro e w1 ⟨⟨v, rfl, hp⟩, hx⟩
 obtain ⟨x, k, rfl, hv⟩ := kg rfl hp
 have B1 := yz (aj (yy B0) hx)
 have cN := yz (yy HN w1 x k hv)
 generalize (aV L a b c d S).length = m at *
 clear hx hp hv B0 cM HN
 go_wp2_with fail
 refine (yy cN).mono ?_
 rintro e w2 ⟨rfl, hw⟩
 rw [hw]
 clear hw w2
 go_wp2_with fail
 go_ret
 exact ⟨rfl, yy B1⟩
theorem sP {w' : World} {B : Nat} {ids : List Int} {cnt code : Int} {e : Ending} (h : vh w' B ids cnt code e) : ∃ a k, e = .returned (.agg #[.slice a ids.length k, .int .i64 cnt, .int .i64 code]) ∧ eP w' a ids ids.length := by
 obtain ⟨v, he, h⟩ := h
 rcases h with ⟨h0, rfl⟩ | ⟨g, rfl, _, hr⟩
 ·exact ⟨none, 0, by rw [he, h0]; rfl, .inl (by rw [h0]; rfl)⟩
 ·exact ⟨_, _, he, jw hr⟩
theorem nJ {w' : World} {B : Nat} {ids : List Int} {cnt code : Int} {e : Ending} (h : vg w' B ids cnt code e) : ∃ a k, e = .returned (.agg #[.slice a ids.length k, .int .i64 cnt, .int .i64 code]) ∧ eP w' a ids ids.length := by
 obtain ⟨a, k, he, hp⟩ := sR h
 obtain ⟨x, y, hv, hN⟩ := kg (ids := ids) rfl (show fK w' 2 1 B w'.heap.size ids.length (.slice a ids.length k) (fun j => .int .i64 (ids.getD j 0)) from hp)
 rw [hv] at he
 exact ⟨x, y, he, hN⟩
theorem mg (T : Array Value) (X : World) (b : Nat) (p q r s k : Int) (hT : T.getD 4 undef = .pointer (some ⟨b, 0, none⟩)) (h : Blk X b [.int .i64 p, .int .i64 q, .int .i64 r, .int .i64 s, .int .i64 k] 48) : (results Tryz.f66 T).run Tryz.prog X = .ok (.agg #[.int .i64 p, .int .i64 q, .int .i64 r, .int .i64 s, .int .i64 k]) X := by
 obtain ⟨h0, h1, h2, h3, h4⟩ := jj (h)
 simp only [Array.getD_eq_getD_getElem?] at hT
 simp [results, Tryz.results66, go_sem, hT, h0, h1, h2, h3, h4]
theorem qm (L : List St) (S : List D3) (ar br : Option Addr) (cr dr : Nat) (p : Addr) (w : World) (hn : L.length ≤ 1048576) (hcap : L.length ≤ cr) (hc9 : cr ≤ 9223372036854775807) (hn2 : S.length ≤ 1048576) (hcap2 : S.length ≤ dr) (hd9 : dr ≤ 9223372036854775807) (hS : aH w ar L L.length) (hD : co w br S S.length) (hA : ∀ y, ar = some y → y.block < w.heap.size) (hB : ∀ y, br = some y → y.block < w.heap.size) (hE : aY p w) :
  Calls Tryz.prog 66 #[.agg #[.slice ar L.length cr], .slice br S.length dr] w fun e w' => e = .returned (.agg #[.int .i64 (aP L S).1.1, .int .i64 (aP L S).1.2.1, .int .i64 (aP L S).1.2.2.1, .int .i64 (aP L S).1.2.2.2, .int .i64 (aP L S).2]) ∧ Below w.heap.size w w' := by
 have B0 := yz (aM w (.cells #[.slice ar L.length cr] 60) (.cells #[.int .i64 0, .int .i64 0, .int .i64 0, .int .i64 0, .int .i64 0] 48))
 have A0 := yz ((aD w [.slice ar L.length cr] 60).alloc (.cells #[.int .i64 0, .int .i64 0, .int .i64 0, .int .i64 0, .int .i64 0] 48))
 have R0 := yz (by simpa using aD (w.alloc (.cells #[.slice ar L.length cr] 60)) [.int .i64 0, .int .i64 0, .int .i64 0, .int .i64 0, .int .i64 0] 48 : Blk ((w.alloc (.cells #[.slice ar L.length cr] 60)).alloc (.cells #[.int .i64 0, .int .i64 0, .int .i64 0, .int .i64 0, .int .i64 0] 48)) (w.heap.size + 1) [.int .i64 0, .int .i64 0, .int .i64 0, .int .i64 0, .int .i64 0] 48)
 have hl0 := (yy B0).size
 have cI := yz (oz L S ar br cr dr p _ hn hn2 hcap hc9 hcap2 hd9 (hS.kept (yy B0)) (hD.kept (yy B0)) (fun y e => Nat.lt_of_lt_of_le (hA y e) hl0) (fun y e => Nat.lt_of_lt_of_le (hB y e) hl0) (hE.kept (yy B0)))
 have hid := lK L S
 have cF := yz (fun (W : World) (x : Option Addr) (k : Nat) (h : Below w.heap.size w W) hN => kP L S (bB L S) ar br x cr dr k p W hn hcap hc9 hn2 hcap2 hd9 (by omega) (hS.kept h) (hD.kept h) hN (hE.kept h))
 have hY : dg L S = 0 → Hid (aP L S = fH L S (bB L S)) := fun h => yz (by unfold aP; rw [if_pos h])
 have hN : dg L S ≠ 0 → Hid (aP L S = ((0, 0, 0, 0), dg L S)) := fun h => yz (by unfold aP; rw [if_neg h])
 clear hS hD hE hl0 hA hB
 go_enter Tryz.func66, Tryz.ntmps66
 go_wp2_with fail
 refine (yy cI).mono ?_
 rintro e w1 ⟨hO, hx⟩
 obtain ⟨x, k, rfl, hv⟩ := sP hO
 generalize dg L S = kd at *
 generalize eD L S = ct at *
 have Z := an w1 (.cells #[.slice x (bB L S).length k, .int .i64 ct, .int .i64 kd] 100)
 have B1 := yz (aj (aj (yy B0) hx) Z)
 have A1 := yz (((yy A0).kept hx).kept Z)
 have R1 := yz (((yy R0).kept hx).kept Z)
 have I1 := yz (aD w1 [.slice x (bB L S).length k, .int .i64 ct, .int .i64 kd] 100)
 have N1 := yz (hv.kept Z)
 clear hx hO hv Z B0 A0 R0 cI
 by_cases h0 : kd = 0
 ·have HO := hY h0
  clear hY hN
  have cF2 := yz (yy cF _ x k (yy B1) (yy N1))
  rw [← yy HO] at cF2
  clear cF N1 HO
  obtain ⟨⟨⟨t1, t2, t3, t4⟩, tc⟩, htv⟩ : ∃ z, aP L S = z := ⟨_, rfl⟩
  rw [htv] at cF2
  have HTV := yz htv
  clear htv
  have cF3 : Hid (Calls Tryz.prog 96 #[.slice ar L.length cr, .slice br S.length dr, .slice x (bB L S).length k] (w1.alloc (.cells #[.slice x (bB L S).length k, .int .i64 ct, .int .i64 kd] 100)) fun e w' => e = .returned (.agg #[.int .i64 t1, .int .i64 t2, .int .i64 t3, .int .i64 t4, .int .i64 tc]) ∧ Below (w1.alloc (.cells #[.slice x (bB L S).length k, .int .i64 ct, .int .i64 kd] 100)).heap.size (w1.alloc (.cells #[.slice x (bB L S).length k, .int .i64 ct, .int .i64 kd] 100)) w') := cF2
  clear cF2
  generalize (bB L S).length = nI at *
  have a0 := (yy A1).cell 0 _ rfl
  obtain ⟨i0, i1, i2⟩ := lm (yy I1)
  subst h0
  go_wp2_with fail
  clear a0 i0 i1 i2
  refine (yy cF3).mono ?_
  rintro e w2 ⟨rfl, hx⟩
  have B2 := yz (aj (yy B1) hx)
  have R2 := yz ((yy R1).kept hx)
  clear hx
  obtain ⟨r0, r1, r2, r3, r4⟩ := jj (yy R2)
  obtain ⟨g0, g1, g2, g3, g4⟩ := nZ (yy R2)
  go_wp2_with fail
  clear r0 r1 r2 r3 r4 g0 g1 g2 g3 g4
  rw [yy HTV]
  refine bodyPost_ret (v := .agg #[.int .i64 t1, .int .i64 t2, .int .i64 t3, .int .i64 t4, .int .i64 tc]) ?_ rfl ⟨rfl, ?_⟩
  ·exact mg _ _ (w.heap.size + 1) _ _ _ _ _ rfl ((((((yy R2).set 0 _).set 1 _).set 2 _).set 3 _).set 4 _)
  ·iterate 5 (refine aB ?_ (show w.heap.size ≤ w.heap.size + 1 by omega) _ _)
   exact yy B2
 ·have HO := hN h0
  clear hY hN cF
  generalize (bB L S).length = nI at *
  obtain ⟨i0, i1, i2⟩ := lm (yy I1)
  obtain ⟨r0, r1, r2, r3, r4⟩ := jj (yy R1)
  obtain ⟨g0, g1, g2, g3, g4⟩ := nZ (yy R1)
  go_wp2_with fail
  clear r0 r1 r2 r3 r4 g0 g1 g2 g3 g4 i0 i1 i2
  rw [yy HO]
  refine bodyPost_ret (v := .agg #[.int .i64 0, .int .i64 0, .int .i64 0, .int .i64 0, .int .i64 kd]) ?_ rfl ⟨rfl, ?_⟩
  ·exact mg _ _ (w.heap.size + 1) _ _ _ _ _ rfl ((((((yy R1).set 0 _).set 1 _).set 2 _).set 3 _).set 4 _)
  ·iterate 5 (refine aB ?_ (show w.heap.size ≤ w.heap.size + 1 by omega) _ _)
   exact yy B1
theorem en (T : Array Value) (X : World) (b : Nat) (v : Value) (lim mode A B C D coast fr : Int) (hT : T.getD 4 undef = .pointer (some ⟨b, 0, none⟩)) (h : dj X b v lim mode A B C D coast fr) : (results Tryz.f30 T).run Tryz.prog X = .ok (.agg #[v, .int .i64 lim, .int .i64 mode, .int .i64 A, .int .i64 B, .int .i64 C, .int .i64 D, .int .i64 coast, .int .i64 fr]) X := by
 obtain ⟨h0, h1, h2, h3, h4, h5, h6, h7, h8⟩ := h
 simp only [Array.getD_eq_getD_getElem?] at hT
 simp [results, Tryz.results30, go_sem, hT, h0, h1, h2, h3, h4, h5, h6, h7, h8]
theorem iw (T : Array Value) (X : World) (b : Nat) (v : Value) (lim mode A B C D coast fr code : Int) (hT : T.getD 4 undef = .pointer (some ⟨b, 0, none⟩)) (h : TkO X b v lim mode A B C D coast fr code) : (results Tryz.f6 T).run Tryz.prog X = .ok (.agg #[v, .int .i64 lim, .int .i64 mode, .int .i64 A, .int .i64 B, .int .i64 C, .int .i64 D, .int .i64 coast, .int .i64 fr, .int .i64 code]) X := by
 obtain ⟨⟨h0, h1, h2, h3, h4, h5, h6, h7, h8⟩, h9⟩ := h
 simp only [Array.getD_eq_getD_getElem?] at hT
 simp [results, Tryz.results6, go_sem, hT, h0, h1, h2, h3, h4, h5, h6, h7, h8, h9]
end
end Go.Proofs.YtgiodlllokdcdaaGreatDoor
