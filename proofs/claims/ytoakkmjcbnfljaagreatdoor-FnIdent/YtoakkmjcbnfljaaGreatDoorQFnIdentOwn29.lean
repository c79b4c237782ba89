/- Several texts in one: DrawT1. -/
import Derived.Deep.DeepCutAuto
import Derived.Deep.RegionHeld
import Derived.Test.YtoakkmjcbnfljaaGreatDoorQFnIdentOwn28
import Derived.Test.YtoakkmjcbnfljaaGreatDoorQFnIdentOwn16
namespace Go.Proofs.YtoakkmjcbnfljaaGreatDoor
set_option linter.unusedVariables false
set_option linter.unusedSimpArgs false
set_option maxRecDepth 100000
set_option maxHeartbeats 8000000
section
open Go.RowKit
theorem bS {w w' : World} (h : Below w.heap.size w w') (row : Option Nat) : w.grownBy w' row := ⟨h.os, h.tape, h.output, h.size, fun i hi _ => h.block i hi⟩
theorem aU.below {b : Nat} {w w' : World} (h : aU b w) (hB : Below w.heap.size w w') : aU b w' := h.kept (bS hB none) (fun _ e => by cases e)
theorem aP.grown {w w' : World} {b c : Nat} {p q r s : Int} (h : aP w b p q r s) (hg : w.grownBy w' (some c)) (hne : b ≠ c) : aP w' b p q r s := by
 obtain ⟨h0, h1, h2, h3⟩ := h
 have hn : ∀ i, some (⟨b, i, none⟩ : Addr).block ≠ some c := fun i e => hne (Option.some.inj e)
 exact ⟨hg.cell h0 (hn 0), hg.cell h1 (hn 1), hg.cell h2 (hn 2), hg.cell h3 (hn 3)⟩
theorem dW.grown {w w' : World} {b c : Nat} (h : dW w b) (hb : b < w.heap.size) (hg : w.grownBy w' (some c)) (hne : b ≠ c) : dW w' b := by
 obtain ⟨h0, h1, h2, h3⟩ := h
 have hf : ∀ i, w'.frozen? ⟨b, i, none⟩ = w.frozen? ⟨b, i, none⟩ := fun i => World.frozen?_of_block (hg.block b hb (fun e => hne (Option.some.inj e)))
 exact ⟨by rw [hf]; exact h0, by rw [hf]; exact h1, by rw [hf]; exact h2, by rw [hf]; exact h3⟩
theorem de.grown {w w' : World} {b c : Nat} {p q r s k : Int} (h : de w b p q r s k) (hg : w.grownBy w' (some c)) (hne : b ≠ c) : de w' b p q r s k := by
 obtain ⟨h0, h1, h2, h3, h4⟩ := h
 have hn : ∀ i, some (⟨b, i, none⟩ : Addr).block ≠ some c := fun i e => hne (Option.some.inj e)
 exact ⟨hg.cell h0 (hn 0), hg.cell h1 (hn 1), hg.cell h2 (hn 2), hg.cell h3 (hn 3), hg.cell h4 (hn 4)⟩
theorem gQ {w : World} {b : Nat} {p q r s : Int} (h : aP w b p q r s) (x y z u : Int) : aP ((((w.setCell ⟨b, 0, none⟩ (.int .i64 x)).setCell ⟨b, 1, none⟩ (.int .i64 y)).setCell ⟨b, 2, none⟩ (.int .i64 z)).setCell ⟨b, 3, none⟩ (.int .i64 u)) b x y z u := by
 obtain ⟨h0, h1, h2, h3⟩ := h
 refine ⟨?_, ?_, ?_, ?_⟩ <;> simp [go_sem, h0, h1, h2, h3]
theorem gA {a w : World} {row : Option Nat} (h : a.grownBy w row) : a.grownBy w.drew row := ⟨h.os, h.tape, h.output, h.size, h.block⟩
theorem aU.drewT {b : Nat} {w : World} (h : aU b w) : aU b w.drew := h.kept (row := none) ⟨rfl, rfl, rfl, Nat.le_refl _, fun _ _ _ => rfl⟩ (fun _ e => by cases e)
theorem fe (a b c d : Int) (w : World) :
  Calls Tryz.prog 65 #[.int .i64 a, .int .i64 b, .int .i64 c, .int .i64 d] w fun e w' => ∃ p q r s k : Int, e = .returned (.agg #[.int .i64 p, .int .i64 q, .int .i64 r, .int .i64 s, .int .i64 k]) ∧ Below w.heap.size w w' :=
 (lD a b c d w).mono fun e w' h => ⟨_, _, _, _, _, h.1, h.2⟩
theorem gk (b : Nat) (w : World) (hS : aU b w) :
  Calls Tryz.prog 32 #[.pointer (some ⟨b, 0, none⟩)] w fun e w' => ∃ p q r s : Int, e = .returned (.agg #[.int .i64 p, .int .i64 q, .int .i64 r, .int .i64 s]) ∧ aU b w' ∧ w.grownBy w' (some b) := by
 have hlt := hS.lt
 have HS := yz hS
 clear hS
 go_enter Tryz.func32, Tryz.ntmps32
 go_wp2_with fail
 refine (bh b 3 _ ((yy HS).allocs _) (by omega)).mono ?_
 rintro e w1 ⟨y, rfl, hS1, hg1⟩
 have vr := (aT w 0 0 0 0 34).grown hg1 (by omega)
 have fr := (mx w 0 0 0 0 34).grown (by simp) hg1 (by omega)
 have hg := an (World.grownBy_alloc w _ (some b)) hg1
 have HS1 := yz hS1
 have Vr := yz vr
 have Fr := yz fr
 have HG := yz hg
 clear hS1 hg1 vr fr hg
 cases y
 ·go_wp2_with fail
  refine (bh b 10 _ (yy HS1) (by omega)).mono ?_
  rintro e w2 ⟨y2, rfl, hS, hg⟩
  have HS2 := yz hS
  replace Fr := yz ((yy Fr).grown (yy Vr).lt hg (by omega))
  replace Vr := yz ((yy Vr).grown hg (by omega))
  replace HG := yz (an (yy HG) hg)
  clear hS hg HS1
  cases y2
  ·go_wp2_with fail
   refine (bp b 3 _ (yy HS2) (by omega)).mono ?_
   rintro e w3 ⟨z0, rfl, _, _, _, hS, hg⟩
   have HS3 := yz hS
   replace Fr := yz ((yy Fr).grown (yy Vr).lt hg (by omega))
   replace Vr := yz ((yy Vr).grown hg (by omega))
   replace HG := yz (an (yy HG) hg)
   clear hS hg HS2
   go_wp2_with fail
   refine (bp b 3 _ (yy HS3) (by omega)).mono ?_
   rintro e w4 ⟨z1, rfl, _, _, _, hS, hg⟩
   have HS4 := yz hS
   replace Fr := yz ((yy Fr).grown (yy Vr).lt hg (by omega))
   replace Vr := yz ((yy Vr).grown hg (by omega))
   replace HG := yz (an (yy HG) hg)
   clear hS hg HS3
   go_wp2_with fail
   refine (bp b 3 _ (yy HS4) (by omega)).mono ?_
   rintro e w5 ⟨z2, rfl, _, _, _, hS, hg⟩
   have HS5 := yz hS
   replace Fr := yz ((yy Fr).grown (yy Vr).lt hg (by omega))
   replace Vr := yz ((yy Vr).grown hg (by omega))
   replace HG := yz (an (yy HG) hg)
   clear hS hg HS4
   go_wp2_with fail
   refine (bp b 3 _ (yy HS5) (by omega)).mono ?_
   rintro e w6 ⟨z3, rfl, _, _, _, hS, hg⟩
   have HS6 := yz hS
   replace Fr := yz ((yy Fr).grown (yy Vr).lt hg (by omega))
   replace Vr := yz ((yy Vr).grown hg (by omega))
   replace HG := yz (an (yy HG) hg)
   clear hS hg HS5
   go_wp2_with fail
   refine (fe _ _ _ _ _).mono ?_
   rintro e w7 ⟨p, q, r, s, k, rfl, hx⟩
   have Vr7 := yz ((yy Vr).kept (yy Vr).lt hx)
   have Fr7 := yz ((yy Fr).kept (yy Vr).lt hx)
   have HS7w := yz ((yy HS6).below hx)
   have HG7 := yz (an (yy HG) (bS hx (some b)))
   have HLT : w.heap.size < w7.heap.size := ((yy Vr).kept (yy Vr).lt hx).lt
   replace Fr := yz (((yy Fr).kept (yy Vr).lt hx).kept ((yy Vr).kept (yy Vr).lt hx).lt (ak w7 (.cells #[.int .i64 p, .int .i64 q, .int .i64 r, .int .i64 s, .int .i64 k] 42)))
   replace Vr := yz (((yy Vr).kept (yy Vr).lt hx).alloc (.cells #[.int .i64 p, .int .i64 q, .int .i64 r, .int .i64 s, .int .i64 k] 42))
   have Vx := yz (eH w7 p q r s k 42)
   have HS7 := yz ((((yy HS6).below hx)).allocs (.cells #[.int .i64 p, .int .i64 q, .int .i64 r, .int .i64 s, .int .i64 k] 42))
   replace HG := yz (an (an (yy HG) (bS hx (some b))) (World.grownBy_alloc w7 (.cells #[.int .i64 p, .int .i64 q, .int .i64 r, .int .i64 s, .int .i64 k] 42) (some b)))
   have hbx : b < w7.heap.size := Nat.lt_of_lt_of_le (yy HS6).lt hx.size
   clear hx HS6
   have vx := yy Vx
   obtain ⟨cx0, cx1, cx2, cx3, cx4⟩ := vx
   by_cases hk : k = 0
   ·subst hk
    go_wp2_with fail
    clear cx0 cx1 cx2 cx3 cx4
    refine (bh b 20 _ (yy HS7) (by omega)).mono ?_
    rintro e w8 ⟨y3, rfl, hS, hg⟩
    replace Vx := yz ((yy Vx).grown hg (by omega))
    have HS8 := yz hS
    replace Fr := yz ((yy Fr).grown (yy Vr).lt hg (by omega))
    replace Vr := yz ((yy Vr).grown hg (by omega))
    replace HG := yz (an (yy HG) hg)
    clear hS hg HS7
    have hlt8 : w.heap.size < w7.heap.size := HLT
    have vx := yy Vx
    obtain ⟨cx0, cx1, cx2, cx3, cx4⟩ := vx
    obtain ⟨cr0, cr1, cr2, cr3⟩ := yy Vr
    obtain ⟨fr0, fr1, fr2, fr3⟩ := yy Fr
    have hbr : b < w.heap.size := hlt
    cases y3
    ·have HSX := HS8
     go_wp2_with fail
     exact bodyPost_ret (v := .agg #[.int .i64 p, .int .i64 q, .int .i64 r, .int .i64 s]) (by simp [results, Tryz.results32, go_sem, cr0, cr1, cr2, cr3]) rfl ⟨_, _, _, _, rfl, (((aU.set (yy HSX) hbr _).set hbr _).set hbr _).set hbr _, az (az (az (az (yy HG) (Nat.le_refl _) _) (Nat.le_refl _) _) (Nat.le_refl _) _) (Nat.le_refl _) _⟩
    ·have hne1 : w.heap.size ≠ w7.heap.size := by have := hlt8; omega
     have hne2 : w7.heap.size ≠ w.heap.size := Ne.symm hne1
     have HC : Hid (w8.cell? ⟨w7.heap.size, 0, none⟩ = some (.int .i64 p) ∧ w8.cell? ⟨w7.heap.size, 1, none⟩ = some (.int .i64 q) ∧ w8.cell? ⟨w7.heap.size, 2, none⟩ = some (.int .i64 r)) := yz ⟨cx0, cx1, cx2⟩
     clear cx0 cx1 cx2 cx3 cx4 cr0 cr1 cr2 cr3 fr0 fr1 fr2 fr3
     go_wp2_with fail
     have cN : Hid (Calls Tryz.prog 31 #[.pointer (some ⟨b, 0, none⟩), .int .i64 4] w8.drew fun e w' => ∃ z : Int, e = .returned (.int .i64 z) ∧ de w' w7.heap.size p q r s 0 ∧ aP w' w.heap.size 0 0 0 0 ∧ dW w' w.heap.size ∧ Hid (aU b w') ∧ Hid (w.grownBy w' (some b))) := yz ((bp b 4 _ (yy HS8).drewT (by omega)).mono fun e w' ⟨z, he, _, _, _, hSn, hgn⟩ => ⟨z, he, (show de w8.drew w7.heap.size p q r s 0 from yy Vx).grown hgn (by omega), (show aP w8.drew w.heap.size 0 0 0 0 from yy Vr).grown hgn (by omega), (show dW w8.drew w.heap.size from yy Fr).grown (yy Vr).lt hgn (by omega), yz hSn, yz (an (gA (yy HG)) hgn)⟩)
     go_region_held (fun w' => w'.cell? ⟨w7.heap.size, 0, none⟩ = some (.int .i64 p) ∧ w'.cell? ⟨w7.heap.size, 1, none⟩ = some (.int .i64 q) ∧ w'.cell? ⟨w7.heap.size, 2, none⟩ = some (.int .i64 r)) (first | (with_reducible exact (yy HC)) | exact (yy HC) | (with_reducible exact ⟨q0, q1, q2⟩) | simp [go_sem, q0, q1, q2]) ((go_at_call 31; refine (yy cN).mono ?_; rintro e wn ⟨zz, rfl, ⟨q0, q1, q2, q3, q4⟩, ⟨cr0, cr1, cr2, cr3⟩, ⟨fr0, fr1, fr2, fr3⟩, HSX, HGX⟩))
     all_goals go_wp2
     all_goals exact bodyPost_ret (v := .agg #[.int .i64 p, .int .i64 q, .int .i64 r, .int .i64 (IntKind.i64.wrap (6 - IntKind.i64.wrap (2 * zz)))]) (by simp [results, Tryz.results32, go_sem, cr0, cr1, cr2, cr3]) rfl ⟨_, _, _, _, rfl, (((aU.set (yy HSX) hbr _).set hbr _).set hbr _).set hbr _, az (az (az (az (yy HGX) (Nat.le_refl _) _) (Nat.le_refl _) _) (Nat.le_refl _) _) (Nat.le_refl _) _⟩
   ·have hkb : (k != 0) = true := by simpa using hk
    have hkc : (k == 0) = false := by simpa using hk
    have hbr : b < w.heap.size := hlt
    obtain ⟨cr0, cr1, cr2, cr3⟩ := yy Vr7
    obtain ⟨fr0, fr1, fr2, fr3⟩ := yy Fr7
    clear Vx
    go_wp2_with fail
    obtain ⟨u0, u1, u2, u3⟩ := (gQ (yy Vr7) 1 0 0 0).alloc (.cells #[.int .i64 p, .int .i64 q, .int .i64 r, .int .i64 s, .int .i64 k] 42)
    exact bodyPost_ret (v := .agg #[.int .i64 1, .int .i64 0, .int .i64 0, .int .i64 0]) (by simp [results, Tryz.results32, go_sem, u0, u1, u2, u3]) rfl ⟨_, _, _, _, rfl, ((((aU.set (yy HS7w) hbr _).set hbr _).set hbr _).set hbr _).allocs _, an (az (az (az (az (yy HG7) (Nat.le_refl _) _) (Nat.le_refl _) _) (Nat.le_refl _) _) (Nat.le_refl _) _) (World.grownBy_alloc _ _ (some b))⟩
  ·go_wp2_with fail
   refine (bp b 11 _ (yy HS2) (by omega)).mono ?_
   rintro e w3 ⟨z0, rfl, _, _, _, hS, hg⟩
   have HS3 := yz hS
   replace Fr := yz ((yy Fr).grown (yy Vr).lt hg (by omega))
   replace Vr := yz ((yy Vr).grown hg (by omega))
   replace HG := yz (an (yy HG) hg)
   clear hS hg HS2
   go_wp2_with fail
   refine (bp b 11 _ (yy HS3) (by omega)).mono ?_
   rintro e w4 ⟨z1, rfl, _, _, _, hS, hg⟩
   have HS4 := yz hS
   replace Fr := yz ((yy Fr).grown (yy Vr).lt hg (by omega))
   replace Vr := yz ((yy Vr).grown hg (by omega))
   replace HG := yz (an (yy HG) hg)
   clear hS hg HS3
   go_wp2_with fail
   refine (bp b 11 _ (yy HS4) (by omega)).mono ?_
   rintro e w5 ⟨z2, rfl, _, _, _, hS, hg⟩
   have HS5 := yz hS
   replace Fr := yz ((yy Fr).grown (yy Vr).lt hg (by omega))
   replace Vr := yz ((yy Vr).grown hg (by omega))
   replace HG := yz (an (yy HG) hg)
   clear hS hg HS4
   go_wp2_with fail
   refine (bp b 11 _ (yy HS5) (by omega)).mono ?_
   rintro e w6 ⟨z3, rfl, _, _, _, hS, hg⟩
   have HS6 := yz hS
   replace Fr := yz ((yy Fr).grown (yy Vr).lt hg (by omega))
   replace Vr := yz ((yy Vr).grown hg (by omega))
   replace HG := yz (an (yy HG) hg)
   clear hS hg HS5
   go_wp2_with fail
   refine (fe _ _ _ _ _).mono ?_
   rintro e w7 ⟨p, q, r, s, k, rfl, hx⟩
   have Vr7 := yz ((yy Vr).kept (yy Vr).lt hx)
   have Fr7 := yz ((yy Fr).kept (yy Vr).lt hx)
   have HS7w := yz ((yy HS6).below hx)
   have HG7 := yz (an (yy HG) (bS hx (some b)))
   have HLT : w.heap.size < w7.heap.size := ((yy Vr).kept (yy Vr).lt hx).lt
   replace Fr := yz (((yy Fr).kept (yy Vr).lt hx).kept ((yy Vr).kept (yy Vr).lt hx).lt (ak w7 (.cells #[.int .i64 p, .int .i64 q, .int .i64 r, .int .i64 s, .int .i64 k] 42)))
   replace Vr := yz (((yy Vr).kept (yy Vr).lt hx).alloc (.cells #[.int .i64 p, .int .i64 q, .int .i64 r, .int .i64 s, .int .i64 k] 42))
   have Vx := yz (eH w7 p q r s k 42)
   have HS7 := yz ((((yy HS6).below hx)).allocs (.cells #[.int .i64 p, .int .i64 q, .int .i64 r, .int .i64 s, .int .i64 k] 42))
   replace HG := yz (an (an (yy HG) (bS hx (some b))) (World.grownBy_alloc w7 (.cells #[.int .i64 p, .int .i64 q, .int .i64 r, .int .i64 s, .int .i64 k] 42) (some b)))
   have hbx : b < w7.heap.size := Nat.lt_of_lt_of_le (yy HS6).lt hx.size
   clear hx HS6
   have vx := yy Vx
   obtain ⟨cx0, cx1, cx2, cx3, cx4⟩ := vx
   by_cases hk : k = 0
   ·subst hk
    go_wp2_with fail
    clear cx0 cx1 cx2 cx3 cx4
    refine (bh b 20 _ (yy HS7) (by omega)).mono ?_
    rintro e w8 ⟨y3, rfl, hS, hg⟩
    replace Vx := yz ((yy Vx).grown hg (by omega))
    have HS8 := yz hS
    replace Fr := yz ((yy Fr).grown (yy Vr).lt hg (by omega))
    replace Vr := yz ((yy Vr).grown hg (by omega))
    replace HG := yz (an (yy HG) hg)
    clear hS hg HS7
    have hlt8 : w.heap.size < w7.heap.size := HLT
    have vx := yy Vx
    obtain ⟨cx0, cx1, cx2, cx3, cx4⟩ := vx
    obtain ⟨cr0, cr1, cr2, cr3⟩ := yy Vr
    obtain ⟨fr0, fr1, fr2, fr3⟩ := yy Fr
    have hbr : b < w.heap.size := hlt
    cases y3
    ·have HSX := HS8
     go_wp2_with fail
     exact bodyPost_ret (v := .agg #[.int .i64 p, .int .i64 q, .int .i64 r, .int .i64 s]) (by simp [results, Tryz.results32, go_sem, cr0, cr1, cr2, cr3]) rfl ⟨_, _, _, _, rfl, (((aU.set (yy HSX) hbr _).set hbr _).set hbr _).set hbr _, az (az (az (az (yy HG) (Nat.le_refl _) _) (Nat.le_refl _) _) (Nat.le_refl _) _) (Nat.le_refl _) _⟩
    ·have hne1 : w.heap.size ≠ w7.heap.size := by have := hlt8; omega
     have hne2 : w7.heap.size ≠ w.heap.size := Ne.symm hne1
     have HC : Hid (w8.cell? ⟨w7.heap.size, 0, none⟩ = some (.int .i64 p) ∧ w8.cell? ⟨w7.heap.size, 1, none⟩ = some (.int .i64 q) ∧ w8.cell? ⟨w7.heap.size, 2, none⟩ = some (.int .i64 r)) := yz ⟨cx0, cx1, cx2⟩
     clear cx0 cx1 cx2 cx3 cx4 cr0 cr1 cr2 cr3 fr0 fr1 fr2 fr3
     go_wp2_with fail
     have cN : Hid (Calls Tryz.prog 31 #[.pointer (some ⟨b, 0, none⟩), .int .i64 4] w8.drew fun e w' => ∃ z : Int, e = .returned (.int .i64 z) ∧ de w' w7.heap.size p q r s 0 ∧ aP w' w.heap.size 0 0 0 0 ∧ dW w' w.heap.size ∧ Hid (aU b w') ∧ Hid (w.grownBy w' (some b))) := yz ((bp b 4 _ (yy HS8).drewT (by omega)).mono fun e w' ⟨z, he, _, _, _, hSn, hgn⟩ => ⟨z, he, (show de w8.drew w7.heap.size p q r s 0 from yy Vx).grown hgn (by omega), (show aP w8.drew w.heap.size 0 0 0 0 from yy Vr).grown hgn (by omega), (show dW w8.drew w.heap.size from yy Fr).grown (yy Vr).lt hgn (by omega), yz hSn, yz (an (gA (yy HG)) hgn)⟩)
     go_region_held (fun w' => w'.cell? ⟨w7.heap.size, 0, none⟩ = some (.int .i64 p) ∧ w'.cell? ⟨w7.heap.size, 1, none⟩ = some (.int .i64 q) ∧ w'.cell? ⟨w7.heap.size, 2, none⟩ = some (.int .i64 r)) (first | (with_reducible exact (yy HC)) | exact (yy HC) | (with_reducible exact ⟨q0, q1, q2⟩) | simp [go_sem, q0, q1, q2]) ((go_at_call 31; refine (yy cN).mono ?_; rintro e wn ⟨zz, rfl, ⟨q0, q1, q2, q3, q4⟩, ⟨cr0, cr1, cr2, cr3⟩, ⟨fr0, fr1, fr2, fr3⟩, HSX, HGX⟩))
     all_goals go_wp2
     all_goals exact bodyPost_ret (v := .agg #[.int .i64 p, .int .i64 q, .int .i64 r, .int .i64 (IntKind.i64.wrap (6 - IntKind.i64.wrap (2 * zz)))]) (by simp [results, Tryz.results32, go_sem, cr0, cr1, cr2, cr3]) rfl ⟨_, _, _, _, rfl, (((aU.set (yy HSX) hbr _).set hbr _).set hbr _).set hbr _, az (az (az (az (yy HGX) (Nat.le_refl _) _) (Nat.le_refl _) _) (Nat.le_refl _) _) (Nat.le_refl _) _⟩
   ·have hkb : (k != 0) = true := by simpa using hk
    have hkc : (k == 0) = false := by simpa using hk
    have hbr : b < w.heap.size := hlt
    obtain ⟨cr0, cr1, cr2, cr3⟩ := yy Vr7
    obtain ⟨fr0, fr1, fr2, fr3⟩ := yy Fr7
    clear Vx
    go_wp2_with fail
    obtain ⟨u0, u1, u2, u3⟩ := (gQ (yy Vr7) 1 0 0 0).alloc (.cells #[.int .i64 p, .int .i64 q, .int .i64 r, .int .i64 s, .int .i64 k] 42)
    exact bodyPost_ret (v := .agg #[.int .i64 1, .int .i64 0, .int .i64 0, .int .i64 0]) (by simp [results, Tryz.results32, go_sem, u0, u1, u2, u3]) rfl ⟨_, _, _, _, rfl, ((((aU.set (yy HS7w) hbr _).set hbr _).set hbr _).set hbr _).allocs _, an (az (az (az (az (yy HG7) (Nat.le_refl _) _) (Nat.le_refl _) _) (Nat.le_refl _) _) (Nat.le_refl _) _) (World.grownBy_alloc _ _ (some b))⟩
 ·go_wp2_with fail
  refine (bh b 10 _ (yy HS1) (by omega)).mono ?_
  rintro e w2 ⟨y2, rfl, hS, hg⟩
  have HS2 := yz hS
  replace Fr := yz ((yy Fr).grown (yy Vr).lt hg (by omega))
  replace Vr := yz ((yy Vr).grown hg (by omega))
  replace HG := yz (an (yy HG) hg)
  clear hS hg HS1
  cases y2
  ·go_wp2_with fail
   refine (bp b 5 _ (yy HS2) (by omega)).mono ?_
   rintro e w3 ⟨z0, rfl, _, _, _, hS, hg⟩
   have HS3 := yz hS
   replace Fr := yz ((yy Fr).grown (yy Vr).lt hg (by omega))
   replace Vr := yz ((yy Vr).grown hg (by omega))
   replace HG := yz (an (yy HG) hg)
   clear hS hg HS2
   go_wp2_with fail
   refine (bp b 5 _ (yy HS3) (by omega)).mono ?_
   rintro e w4 ⟨z1, rfl, _, _, _, hS, hg⟩
   have HS4 := yz hS
   replace Fr := yz ((yy Fr).grown (yy Vr).lt hg (by omega))
   replace Vr := yz ((yy Vr).grown hg (by omega))
   replace HG := yz (an (yy HG) hg)
   clear hS hg HS3
   go_wp2_with fail
   refine (bp b 5 _ (yy HS4) (by omega)).mono ?_
   rintro e w5 ⟨z2, rfl, _, _, _, hS, hg⟩
   have HS5 := yz hS
   replace Fr := yz ((yy Fr).grown (yy Vr).lt hg (by omega))
   replace Vr := yz ((yy Vr).grown hg (by omega))
   replace HG := yz (an (yy HG) hg)
   clear hS hg HS4
   go_wp2_with fail
   refine (bp b 5 _ (yy HS5) (by omega)).mono ?_
   rintro e w6 ⟨z3, rfl, _, _, _, hS, hg⟩
   have HS6 := yz hS
   replace Fr := yz ((yy Fr).grown (yy Vr).lt hg (by omega))
   replace Vr := yz ((yy Vr).grown hg (by omega))
   replace HG := yz (an (yy HG) hg)
   clear hS hg HS5
   go_wp2_with fail
   refine (fe _ _ _ _ _).mono ?_
   rintro e w7 ⟨p, q, r, s, k, rfl, hx⟩
   have Vr7 := yz ((yy Vr).kept (yy Vr).lt hx)
   have Fr7 := yz ((yy Fr).kept (yy Vr).lt hx)
   have HS7w := yz ((yy HS6).below hx)
   have HG7 := yz (an (yy HG) (bS hx (some b)))
   have HLT : w.heap.size < w7.heap.size := ((yy Vr).kept (yy Vr).lt hx).lt
   replace Fr := yz (((yy Fr).kept (yy Vr).lt hx).kept ((yy Vr).kept (yy Vr).lt hx).lt (ak w7 (.cells #[.int .i64 p, .int .i64 q, .int .i64 r, .int .i64 s, .int .i64 k] 42)))
   replace Vr := yz (((yy Vr).kept (yy Vr).lt hx).alloc (.cells #[.int .i64 p, .int .i64 q, .int .i64 r, .int .i64 s, .int .i64 k] 42))
   have Vx := yz (eH w7 p q r s k 42)
   have HS7 := yz ((((yy HS6).below hx)).allocs (.cells #[.int .i64 p, .int .i64 q, .int .i64 r, .int .i64 s, .int .i64 k] 42))
   replace HG := yz (an (an (yy HG) (bS hx (some b))) (World.grownBy_alloc w7 (.cells #[.int .i64 p, .int .i64 q, .int .i64 r, .int .i64 s, .int .i64 k] 42) (some b)))
   have hbx : b < w7.heap.size := Nat.lt_of_lt_of_le (yy HS6).lt hx.size
   clear hx HS6
   have vx := yy Vx
   obtain ⟨cx0, cx1, cx2, cx3, cx4⟩ := vx
   by_cases hk : k = 0
   ·subst hk
    go_wp2_with fail
    clear cx0 cx1 cx2 cx3 cx4
    refine (bh b 20 _ (yy HS7) (by omega)).mono ?_
    rintro e w8 ⟨y3, rfl, hS, hg⟩
    replace Vx := yz ((yy Vx).grown hg (by omega))
    have HS8 := yz hS
    replace Fr := yz ((yy Fr).grown (yy Vr).lt hg (by omega))
    replace Vr := yz ((yy Vr).grown hg (by omega))
    replace HG := yz (an (yy HG) hg)
    clear hS hg HS7
    have hlt8 : w.heap.size < w7.heap.size := HLT
    have vx := yy Vx
    obtain ⟨cx0, cx1, cx2, cx3, cx4⟩ := vx
    obtain ⟨cr0, cr1, cr2, cr3⟩ := yy Vr
    obtain ⟨fr0, fr1, fr2, fr3⟩ := yy Fr
    have hbr : b < w.heap.size := hlt
    cases y3
    ·have HSX := HS8
     go_wp2_with fail
     exact bodyPost_ret (v := .agg #[.int .i64 p, .int .i64 q, .int .i64 r, .int .i64 s]) (by simp [results, Tryz.results32, go_sem, cr0, cr1, cr2, cr3]) rfl ⟨_, _, _, _, rfl, (((aU.set (yy HSX) hbr _).set hbr _).set hbr _).set hbr _, az (az (az (az (yy HG) (Nat.le_refl _) _) (Nat.le_refl _) _) (Nat.le_refl _) _) (Nat.le_refl _) _⟩
    ·have hne1 : w.heap.size ≠ w7.heap.size := by have := hlt8; omega
     have hne2 : w7.heap.size ≠ w.heap.size := Ne.symm hne1
     have HC : Hid (w8.cell? ⟨w7.heap.size, 0, none⟩ = some (.int .i64 p) ∧ w8.cell? ⟨w7.heap.size, 1, none⟩ = some (.int .i64 q) ∧ w8.cell? ⟨w7.heap.size, 2, none⟩ = some (.int .i64 r)) := yz ⟨cx0, cx1, cx2⟩
     clear cx0 cx1 cx2 cx3 cx4 cr0 cr1 cr2 cr3 fr0 fr1 fr2 fr3
     go_wp2_with fail
     have cN : Hid (Calls Tryz.prog 31 #[.pointer (some ⟨b, 0, none⟩), .int .i64 4] w8.drew fun e w' => ∃ z : Int, e = .returned (.int .i64 z) ∧ de w' w7.heap.size p q r s 0 ∧ aP w' w.heap.size 0 0 0 0 ∧ dW w' w.heap.size ∧ Hid (aU b w') ∧ Hid (w.grownBy w' (some b))) := yz ((bp b 4 _ (yy HS8).drewT (by omega)).mono fun e w' ⟨z, he, _, _, _, hSn, hgn⟩ => ⟨z, he, (show de w8.drew w7.heap.size p q r s 0 from yy Vx).grown hgn (by omega), (show aP w8.drew w.heap.size 0 0 0 0 from yy Vr).grown hgn (by omega), (show dW w8.drew w.heap.size from yy Fr).grown (yy Vr).lt hgn (by omega), yz hSn, yz (an (gA (yy HG)) hgn)⟩)
     go_region_held (fun w' => w'.cell? ⟨w7.heap.size, 0, none⟩ = some (.int .i64 p) ∧ w'.cell? ⟨w7.heap.size, 1, none⟩ = some (.int .i64 q) ∧ w'.cell? ⟨w7.heap.size, 2, none⟩ = some (.int .i64 r)) (first | (with_reducible exact (yy HC)) | exact (yy HC) | (with_reducible exact ⟨q0, q1, q2⟩) | simp [go_sem, q0, q1, q2]) ((go_at_call 31; refine (yy cN).mono ?_; rintro e wn ⟨zz, rfl, ⟨q0, q1, q2, q3, q4⟩, ⟨cr0, cr1, cr2, cr3⟩, ⟨fr0, fr1, fr2, fr3⟩, HSX, HGX⟩))
     all_goals go_wp2
     all_goals exact bodyPost_ret (v := .agg #[.int .i64 p, .int .i64 q, .int .i64 r, .int .i64 (IntKind.i64.wrap (6 - IntKind.i64.wrap (2 * zz)))]) (by simp [results, Tryz.results32, go_sem, cr0, cr1, cr2, cr3]) rfl ⟨_, _, _, _, rfl, (((aU.set (yy HSX) hbr _).set hbr _).set hbr _).set hbr _, az (az (az (az (yy HGX) (Nat.le_refl _) _) (Nat.le_refl _) _) (Nat.le_refl _) _) (Nat.le_refl _) _⟩
   ·have hkb : (k != 0) = true := by simpa using hk
    have hkc : (k == 0) = false := by simpa using hk
    have hbr : b < w.heap.size := hlt
    obtain ⟨cr0, cr1, cr2, cr3⟩ := yy Vr7
    obtain ⟨fr0, fr1, fr2, fr3⟩ := yy Fr7
    clear Vx
    go_wp2_with fail
    obtain ⟨u0, u1, u2, u3⟩ := (gQ (yy Vr7) 1 0 0 0).alloc (.cells #[.int .i64 p, .int .i64 q, .int .i64 r, .int .i64 s, .int .i64 k] 42)
    exact bodyPost_ret (v := .agg #[.int .i64 1, .int .i64 0, .int .i64 0, .int .i64 0]) (by simp [results, Tryz.results32, go_sem, u0, u1, u2, u3]) rfl ⟨_, _, _, _, rfl, ((((aU.set (yy HS7w) hbr _).set hbr _).set hbr _).set hbr _).allocs _, an (az (az (az (az (yy HG7) (Nat.le_refl _) _) (Nat.le_refl _) _) (Nat.le_refl _) _) (Nat.le_refl _) _) (World.grownBy_alloc _ _ (some b))⟩
  ·go_wp2_with fail
   refine (bp b 11 _ (yy HS2) (by omega)).mono ?_
   rintro e w3 ⟨z0, rfl, _, _, _, hS, hg⟩
   have HS3 := yz hS
   replace Fr := yz ((yy Fr).grown (yy Vr).lt hg (by omega))
   replace Vr := yz ((yy Vr).grown hg (by omega))
   replace HG := yz (an (yy HG) hg)
   clear hS hg HS2
   go_wp2_with fail
   refine (bp b 11 _ (yy HS3) (by omega)).mono ?_
   rintro e w4 ⟨z1, rfl, _, _, _, hS, hg⟩
   have HS4 := yz hS
   replace Fr := yz ((yy Fr).grown (yy Vr).lt hg (by omega))
   replace Vr := yz ((yy Vr).grown hg (by omega))
   replace HG := yz (an (yy HG) hg)
   clear hS hg HS3
   go_wp2_with fail
   refine (bp b 11 _ (yy HS4) (by omega)).mono ?_
   rintro e w5 ⟨z2, rfl, _, _, _, hS, hg⟩
   have HS5 := yz hS
   replace Fr := yz ((yy Fr).grown (yy Vr).lt hg (by omega))
   replace Vr := yz ((yy Vr).grown hg (by omega))
   replace HG := yz (an (yy HG) hg)
   clear hS hg HS4
   go_wp2_with fail
   refine (bp b 11 _ (yy HS5) (by omega)).mono ?_
   rintro e w6 ⟨z3, rfl, _, _, _, hS, hg⟩
   have HS6 := yz hS
   replace Fr := yz ((yy Fr).grown (yy Vr).lt hg (by omega))
   replace Vr := yz ((yy Vr).grown hg (by omega))
   replace HG := yz (an (yy HG) hg)
   clear hS hg HS5
   go_wp2_with fail
   refine (fe _ _ _ _ _).mono ?_
   rintro e w7 ⟨p, q, r, s, k, rfl, hx⟩
   have Vr7 := yz ((yy Vr).kept (yy Vr).lt hx)
   have Fr7 := yz ((yy Fr).kept (yy Vr).lt hx)
   have HS7w := yz ((yy HS6).below hx)
   have HG7 := yz (an (yy HG) (bS hx (some b)))
   have HLT : w.heap.size < w7.heap.size := ((yy Vr).kept (yy Vr).lt hx).lt
   replace Fr := yz (((yy Fr).kept (yy Vr).lt hx).kept ((yy Vr).kept (yy Vr).lt hx).lt (ak w7 (.cells #[.int .i64 p, .int .i64 q, .int .i64 r, .int .i64 s, .int .i64 k] 42)))
   replace Vr := yz (((yy Vr).kept (yy Vr).lt hx).alloc (.cells #[.int .i64 p, .int .i64 q, .int .i64 r, .int .i64 s, .int .i64 k] 42))
   have Vx := yz (eH w7 p q r s k 42)
   have HS7 := yz ((((yy HS6).below hx)).allocs (.cells #[.int .i64 p, .int .i64 q, .int .i64 r, .int .i64 s, .int .i64 k] 42))
   replace HG := yz (an (an (yy HG) (bS hx (some b))) (World.grownBy_alloc w7 (.cells #[.int .i64 p, .int .i64 q, .int .i64 r, .int .i64 s, .int .i64 k] 42) (some b)))
   have hbx : b < w7.heap.size := Nat.lt_of_lt_of_le (yy HS6).lt hx.size
   clear hx HS6
   have vx := yy Vx
   obtain ⟨cx0, cx1, cx2, cx3, cx4⟩ := vx
   by_cases hk : k = 0
   ·subst hk
    go_wp2_with fail
    clear cx0 cx1 cx2 cx3 cx4
    refine (bh b 20 _ (yy HS7) (by omega)).mono ?_
    rintro e w8 ⟨y3, rfl, hS, hg⟩
    replace Vx := yz ((yy Vx).grown hg (by omega))
    have HS8 := yz hS
    replace Fr := yz ((yy Fr).grown (yy Vr).lt hg (by omega))
    replace Vr := yz ((yy Vr).grown hg (by omega))
    replace HG := yz (an (yy HG) hg)
    clear hS hg HS7
    have hlt8 : w.heap.size < w7.heap.size := HLT
    have vx := yy Vx
    obtain ⟨cx0, cx1, cx2, cx3, cx4⟩ := vx
    obtain ⟨cr0, cr1, cr2, cr3⟩ := yy Vr
    obtain ⟨fr0, fr1, fr2, fr3⟩ := yy Fr
    have hbr : b < w.heap.size := hlt
    cases y3
    ·have HSX := HS8
     go_wp2_with fail
     exact bodyPost_ret (v := .agg #[.int .i64 p, .int .i64 q, .int .i64 r, .int .i64 s]) (by simp [results, Tryz.results32, go_sem, cr0, cr1, cr2, cr3]) rfl ⟨_, _, _, _, rfl, (((aU.set (yy HSX) hbr _).set hbr _).set hbr _).set hbr _, az (az (az (az (yy HG) (Nat.le_refl _) _) (Nat.le_refl _) _) (Nat.le_refl _) _) (Nat.le_refl _) _⟩
    ·have hne1 : w.heap.size ≠ w7.heap.size := by have := hlt8; omega
     have hne2 : w7.heap.size ≠ w.heap.size := Ne.symm hne1
     have HC : Hid (w8.cell? ⟨w7.heap.size, 0, none⟩ = some (.int .i64 p) ∧ w8.cell? ⟨w7.heap.size, 1, none⟩ = some (.int .i64 q) ∧ w8.cell? ⟨w7.heap.size, 2, none⟩ = some (.int .i64 r)) := yz ⟨cx0, cx1, cx2⟩
     clear cx0 cx1 cx2 cx3 cx4 cr0 cr1 cr2 cr3 fr0 fr1 fr2 fr3
     go_wp2_with fail
     have cN : Hid (Calls Tryz.prog 31 #[.pointer (some ⟨b, 0, none⟩), .int .i64 4] w8.drew fun e w' => ∃ z : Int, e = .returned (.int .i64 z) ∧ de w' w7.heap.size p q r s 0 ∧ aP w' w.heap.size 0 0 0 0 ∧ dW w' w.heap.size ∧ Hid (aU b w') ∧ Hid (w.grownBy w' (some b))) := yz ((bp b 4 _ (yy HS8).drewT (by omega)).mono fun e w' ⟨z, he, _, _, _, hSn, hgn⟩ => ⟨z, he, (show de w8.drew w7.heap.size p q r s 0 from yy Vx).grown hgn (by omega), (show aP w8.drew w.heap.size 0 0 0 0 from yy Vr).grown hgn (by omega), (show dW w8.drew w.heap.size from yy Fr).grown (yy Vr).lt hgn (by omega), yz hSn, yz (an (gA (yy HG)) hgn)⟩)
     go_region_held (fun w' => w'.cell? ⟨w7.heap.size, 0, none⟩ = some (.int .i64 p) ∧ w'.cell? ⟨w7.heap.size, 1, none⟩ = some (.int .i64 q) ∧ w'.cell? ⟨w7.heap.size, 2, none⟩ = some (.int .i64 r)) (first | (with_reducible exact (yy HC)) | exact (yy HC) | (with_reducible exact ⟨q0, q1, q2⟩) | simp [go_sem, q0, q1, q2]) ((go_at_call 31; refine (yy cN).mono ?_; rintro e wn ⟨zz, rfl, ⟨q0, q1, q2, q3, q4⟩, ⟨cr0, cr1, cr2, cr3⟩, ⟨fr0, fr1, fr2, fr3⟩, HSX, HGX⟩))
     all_goals go_wp2
     all_goals exact bodyPost_ret (v := .agg #[.int .i64 p, .int .i64 q, .int .i64 r, .int .i64 (IntKind.i64.wrap (6 - IntKind.i64.wrap (2 * zz)))]) (by simp [results, Tryz.results32, go_sem, cr0, cr1, cr2, cr3]) rfl ⟨_, _, _, _, rfl, (((aU.set (yy HSX) hbr _).set hbr _).set hbr _).set hbr _, az (az (az (az (yy HGX) (Nat.le_refl _) _) (Nat.le_refl _) _) (Nat.le_refl _) _) (Nat.le_refl _) _⟩
   ·have hkb : (k != 0) = true := by simpa using hk
    have hkc : (k == 0) = false := by simpa using hk
    have hbr : b < w.heap.size := hlt
    obtain ⟨cr0, cr1, cr2, cr3⟩ := yy Vr7
    obtain ⟨fr0, fr1, fr2, fr3⟩ := yy Fr7
    clear Vx
    go_wp2_with fail
    obtain ⟨u0, u1, u2, u3⟩ := (gQ (yy Vr7) 1 0 0 0).alloc (.cells #[.int .i64 p, .int .i64 q, .int .i64 r, .int .i64 s, .int .i64 k] 42)
    exact bodyPost_ret (v := .agg #[.int .i64 1, .int .i64 0, .int .i64 0, .int .i64 0]) (by simp [results, Tryz.results32, go_sem, u0, u1, u2, u3]) rfl ⟨_, _, _, _, rfl, ((((aU.set (yy HS7w) hbr _).set hbr _).set hbr _).set hbr _).allocs _, an (az (az (az (az (yy HG7) (Nat.le_refl _) _) (Nat.le_refl _) _) (Nat.le_refl _) _) (Nat.le_refl _) _) (World.grownBy_alloc _ _ (some b))⟩
end
end Go.Proofs.YtoakkmjcbnfljaaGreatDoor
