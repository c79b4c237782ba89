/- Several texts in one: DrawT1, ModO. -/
import Derived.Deep.DeepCutAuto
import Derived.Deep.RegionHeld
import Derived.Test.YtgiodlllokdcdaaGreatDoorQFnFollowOwn12
import Derived.Test.YtgiodlllokdcdaaGreatDoorQFnFollowOwn10
import Derived.Test.YtgiodlllokdcdaaGreatDoorQFnFollowOwn21
namespace Go.Proofs.YtgiodlllokdcdaaGreatDoor
set_option linter.unusedVariables false
set_option linter.unusedSimpArgs false
set_option maxRecDepth 100000
set_option maxHeartbeats 8000000
section
open Go.RowKit
theorem aY {w w' : World} (h : Below w.heap.size w w') (row : Option Nat) : w.grownBy w' row := ⟨h.os, h.tape, h.output, h.size, fun i hi _ => h.block i hi⟩
theorem aU.below {b : Nat} {w w' : World} (h : aU b w) (hB : Below w.heap.size w w') : aU b w' := h.kept (aY hB none) (fun _ e => by cases e)
theorem aG.grown {w w' : World} {b c : Nat} {p q r s : Int} (h : aG w b p q r s) (hg : w.grownBy w' (some c)) (hne : b ≠ c) : aG w' b p q r s := by
 obtain ⟨h0, h1, h2, h3⟩ := h
 have hn : ∀ i, some (⟨b, i, none⟩ : Addr).block ≠ some c := fun i e => hne (Option.some.inj e)
 exact ⟨hg.cell h0 (hn 0), hg.cell h1 (hn 1), hg.cell h2 (hn 2), hg.cell h3 (hn 3)⟩
theorem ey.grown {w w' : World} {b c : Nat} (h : ey w b) (hb : b < w.heap.size) (hg : w.grownBy w' (some c)) (hne : b ≠ c) : ey w' b := by
 obtain ⟨h0, h1, h2, h3⟩ := h
 have hf : ∀ i, w'.frozen? ⟨b, i, none⟩ = w.frozen? ⟨b, i, none⟩ := fun i => World.frozen?_of_block (hg.block b hb (fun e => hne (Option.some.inj e)))
 exact ⟨by rw [hf]; exact h0, by rw [hf]; exact h1, by rw [hf]; exact h2, by rw [hf]; exact h3⟩
theorem cd.grown {w w' : World} {b c : Nat} {p q r s k : Int} (h : cd w b p q r s k) (hg : w.grownBy w' (some c)) (hne : b ≠ c) : cd w' b p q r s k := by
 obtain ⟨h0, h1, h2, h3, h4⟩ := h
 have hn : ∀ i, some (⟨b, i, none⟩ : Addr).block ≠ some c := fun i e => hne (Option.some.inj e)
 exact ⟨hg.cell h0 (hn 0), hg.cell h1 (hn 1), hg.cell h2 (hn 2), hg.cell h3 (hn 3), hg.cell h4 (hn 4)⟩
theorem ip {w : World} {b : Nat} {p q r s : Int} (h : aG w b p q r s) (x y z u : Int) : aG ((((w.setCell ⟨b, 0, none⟩ (.int .i64 x)).setCell ⟨b, 1, none⟩ (.int .i64 y)).setCell ⟨b, 2, none⟩ (.int .i64 z)).setCell ⟨b, 3, none⟩ (.int .i64 u)) b x y z u := by
 obtain ⟨h0, h1, h2, h3⟩ := h
 refine ⟨?_, ?_, ?_, ?_⟩ <;> simp [go_sem, h0, h1, h2, h3]
theorem gY {a w : World} {row : Option Nat} (h : a.grownBy w row) : a.grownBy w.drew row := ⟨h.os, h.tape, h.output, h.size, h.block⟩
theorem aU.drewT {b : Nat} {w : World} (h : aU b w) : aU b w.drew := h.kept (row := none) ⟨rfl, rfl, rfl, Nat.le_refl _, fun _ _ _ => rfl⟩ (fun _ e => by cases e)
theorem fy (a b c d : Int) (w : World) :
  Calls Tryz.prog 68 #[.int .i64 a, .int .i64 b, .int .i64 c, .int .i64 d] w fun e w' => ∃ p q r s k : Int, e = .returned (.agg #[.int .i64 p, .int .i64 q, .int .i64 r, .int .i64 s, .int .i64 k]) ∧ Below w.heap.size w w' :=
 (gN a b c d w).mono fun e w' h => ⟨_, _, _, _, _, h.1, h.2⟩
theorem fu (b : Nat) (w : World) (hS : aU b w) :
  Calls Tryz.prog 32 #[.pointer (some ⟨b, 0, none⟩)] w fun e w' => ∃ p q r s : Int, e = .returned (.agg #[.int .i64 p, .int .i64 q, .int .i64 r, .int .i64 s]) ∧ aU b w' ∧ w.grownBy w' (some b) := by
 have hlt := hS.lt
 have HS := yz hS
 clear hS
 go_enter Tryz.func32, Tryz.ntmps32
 go_wp2_with fail
 refine (bO b 3 _ ((yy HS).allocs _) (by omega)).mono ?_
 rintro e w1 ⟨y, rfl, hS1, hg1⟩
 have vr := (aK w 0 0 0 0 25).grown hg1 (by omega)
 have fr := (nc w 0 0 0 0 25).grown (by simp) hg1 (by omega)
 have hg := ak (World.grownBy_alloc w _ (some b)) hg1
 have HS1 := yz hS1
 have Vr := yz vr
 have Fr := yz fr
 have HG := yz hg
 clear hS1 hg1 vr fr hg
 cases y
 ·go_wp2_with fail
  refine (bO b 10 _ (yy HS1) (by omega)).mono ?_
  rintro e w2 ⟨y2, rfl, hS, hg⟩
  have HS2 := yz hS
  replace Fr := yz ((yy Fr).grown (yy Vr).lt hg (by omega))
  replace Vr := yz ((yy Vr).grown hg (by omega))
  replace HG := yz (ak (yy HG) hg)
  clear hS hg HS1
  cases y2
  ·go_wp2_with fail
   refine (bq b 3 _ (yy HS2) (by omega)).mono ?_
   rintro e w3 ⟨z0, rfl, _, _, _, hS, hg⟩
   have HS3 := yz hS
   replace Fr := yz ((yy Fr).grown (yy Vr).lt hg (by omega))
   replace Vr := yz ((yy Vr).grown hg (by omega))
   replace HG := yz (ak (yy HG) hg)
   clear hS hg HS2
   go_wp2_with fail
   refine (bq b 3 _ (yy HS3) (by omega)).mono ?_
   rintro e w4 ⟨z1, rfl, _, _, _, hS, hg⟩
   have HS4 := yz hS
   replace Fr := yz ((yy Fr).grown (yy Vr).lt hg (by omega))
   replace Vr := yz ((yy Vr).grown hg (by omega))
   replace HG := yz (ak (yy HG) hg)
   clear hS hg HS3
   go_wp2_with fail
   refine (bq b 3 _ (yy HS4) (by omega)).mono ?_
   rintro e w5 ⟨z2, rfl, _, _, _, hS, hg⟩
   have HS5 := yz hS
   replace Fr := yz ((yy Fr).grown (yy Vr).lt hg (by omega))
   replace Vr := yz ((yy Vr).grown hg (by omega))
   replace HG := yz (ak (yy HG) hg)
   clear hS hg HS4
   go_wp2_with fail
   refine (bq b 3 _ (yy HS5) (by omega)).mono ?_
   rintro e w6 ⟨z3, rfl, _, _, _, hS, hg⟩
   have HS6 := yz hS
   replace Fr := yz ((yy Fr).grown (yy Vr).lt hg (by omega))
   replace Vr := yz ((yy Vr).grown hg (by omega))
   replace HG := yz (ak (yy HG) hg)
   clear hS hg HS5
   go_wp2_with fail
   refine (fy _ _ _ _ _).mono ?_
   rintro e w7 ⟨p, q, r, s, k, rfl, hx⟩
   have Vr7 := yz ((yy Vr).kept (yy Vr).lt hx)
   have Fr7 := yz ((yy Fr).kept (yy Vr).lt hx)
   have HS7w := yz ((yy HS6).below hx)
   have HG7 := yz (ak (yy HG) (aY hx (some b)))
   have HLT : w.heap.size < w7.heap.size := ((yy Vr).kept (yy Vr).lt hx).lt
   replace Fr := yz (((yy Fr).kept (yy Vr).lt hx).kept ((yy Vr).kept (yy Vr).lt hx).lt (an w7 (.cells #[.int .i64 p, .int .i64 q, .int .i64 r, .int .i64 s, .int .i64 k] 48)))
   replace Vr := yz (((yy Vr).kept (yy Vr).lt hx).alloc (.cells #[.int .i64 p, .int .i64 q, .int .i64 r, .int .i64 s, .int .i64 k] 48))
   have Vx := yz (cg w7 p q r s k 48)
   have HS7 := yz ((((yy HS6).below hx)).allocs (.cells #[.int .i64 p, .int .i64 q, .int .i64 r, .int .i64 s, .int .i64 k] 48))
   replace HG := yz (ak (ak (yy HG) (aY hx (some b))) (World.grownBy_alloc w7 (.cells #[.int .i64 p, .int .i64 q, .int .i64 r, .int .i64 s, .int .i64 k] 48) (some b)))
   have hbx : b < w7.heap.size := Nat.lt_of_lt_of_le (yy HS6).lt hx.size
   clear hx HS6
   have vx := yy Vx
   obtain ⟨cx0, cx1, cx2, cx3, cx4⟩ := vx
   by_cases hk : k = 0
   ·subst hk
    go_wp2_with fail
    clear cx0 cx1 cx2 cx3 cx4
    refine (bO b 20 _ (yy HS7) (by omega)).mono ?_
    rintro e w8 ⟨y3, rfl, hS, hg⟩
    replace Vx := yz ((yy Vx).grown hg (by omega))
    have HS8 := yz hS
    replace Fr := yz ((yy Fr).grown (yy Vr).lt hg (by omega))
    replace Vr := yz ((yy Vr).grown hg (by omega))
    replace HG := yz (ak (yy HG) hg)
    clear hS hg HS7
    have hlt8 : w.heap.size < w7.heap.size := HLT
    have vx := yy Vx
    obtain ⟨cx0, cx1, cx2, cx3, cx4⟩ := vx
    obtain ⟨cr0, cr1, cr2, cr3⟩ := yy Vr
    obtain ⟨fr0, fr1, fr2, fr3⟩ := yy Fr
    have hbr : b < w.heap.size := hlt
    cases y3
    ·have HSX := HS8
     go_wp2_with fail
     exact bodyPost_ret (v := .agg #[.int .i64 p, .int .i64 q, .int .i64 r, .int .i64 s]) (by simp [results, Tryz.results32, go_sem, cr0, cr1, cr2, cr3]) rfl ⟨_, _, _, _, rfl, (((aU.set (yy HSX) hbr _).set hbr _).set hbr _).set hbr _, az (az (az (az (yy HG) (Nat.le_refl _) _) (Nat.le_refl _) _) (Nat.le_refl _) _) (Nat.le_refl _) _⟩
    ·have hne1 : w.heap.size ≠ w7.heap.size := by have := hlt8; omega
     have hne2 : w7.heap.size ≠ w.heap.size := Ne.symm hne1
     have HC : Hid (w8.cell? ⟨w7.heap.size, 0, none⟩ = some (.int .i64 p) ∧ w8.cell? ⟨w7.heap.size, 1, none⟩ = some (.int .i64 q) ∧ w8.cell? ⟨w7.heap.size, 2, none⟩ = some (.int .i64 r)) := yz ⟨cx0, cx1, cx2⟩
     clear cx0 cx1 cx2 cx3 cx4 cr0 cr1 cr2 cr3 fr0 fr1 fr2 fr3
     go_wp2_with fail
     have cN : Hid (Calls Tryz.prog 35 #[.pointer (some ⟨b, 0, none⟩), .int .i64 4] w8.drew fun e w' => ∃ z : Int, e = .returned (.int .i64 z) ∧ cd w' w7.heap.size p q r s 0 ∧ aG w' w.heap.size 0 0 0 0 ∧ ey w' w.heap.size ∧ Hid (aU b w') ∧ Hid (w.grownBy w' (some b))) := yz ((bq b 4 _ (yy HS8).drewT (by omega)).mono fun e w' ⟨z, he, _, _, _, hSn, hgn⟩ => ⟨z, he, (show cd w8.drew w7.heap.size p q r s 0 from yy Vx).grown hgn (by omega), (show aG w8.drew w.heap.size 0 0 0 0 from yy Vr).grown hgn (by omega), (show ey w8.drew w.heap.size from yy Fr).grown (yy Vr).lt hgn (by omega), yz hSn, yz (ak (gY (yy HG)) hgn)⟩)
     go_region_held (fun w' => w'.cell? ⟨w7.heap.size, 0, none⟩ = some (.int .i64 p) ∧ w'.cell? ⟨w7.heap.size, 1, none⟩ = some (.int .i64 q) ∧ w'.cell? ⟨w7.heap.size, 2, none⟩ = some (.int .i64 r)) (first | (with_reducible exact (yy HC)) | exact (yy HC) | (with_reducible exact ⟨q0, q1, q2⟩) | simp [go_sem, q0, q1, q2]) ((go_at_call 35; refine (yy cN).mono ?_; rintro e wn ⟨zz, rfl, ⟨q0, q1, q2, q3, q4⟩, ⟨cr0, cr1, cr2, cr3⟩, ⟨fr0, fr1, fr2, fr3⟩, HSX, HGX⟩))
     all_goals go_wp2
     all_goals exact bodyPost_ret (v := .agg #[.int .i64 p, .int .i64 q, .int .i64 r, .int .i64 (IntKind.i64.wrap (6 - IntKind.i64.wrap (2 * zz)))]) (by simp [results, Tryz.results32, go_sem, cr0, cr1, cr2, cr3]) rfl ⟨_, _, _, _, rfl, (((aU.set (yy HSX) hbr _).set hbr _).set hbr _).set hbr _, az (az (az (az (yy HGX) (Nat.le_refl _) _) (Nat.le_refl _) _) (Nat.le_refl _) _) (Nat.le_refl _) _⟩
   ·have hkb : (k != 0) = true := by simpa using hk
    have hkc : (k == 0) = false := by simpa using hk
    have hbr : b < w.heap.size := hlt
    obtain ⟨cr0, cr1, cr2, cr3⟩ := yy Vr7
    obtain ⟨fr0, fr1, fr2, fr3⟩ := yy Fr7
    clear Vx
    go_wp2_with fail
    obtain ⟨u0, u1, u2, u3⟩ := (ip (yy Vr7) 1 0 0 0).alloc (.cells #[.int .i64 p, .int .i64 q, .int .i64 r, .int .i64 s, .int .i64 k] 48)
    exact bodyPost_ret (v := .agg #[.int .i64 1, .int .i64 0, .int .i64 0, .int .i64 0]) (by simp [results, Tryz.results32, go_sem, u0, u1, u2, u3]) rfl ⟨_, _, _, _, rfl, ((((aU.set (yy HS7w) hbr _).set hbr _).set hbr _).set hbr _).allocs _, ak (az (az (az (az (yy HG7) (Nat.le_refl _) _) (Nat.le_refl _) _) (Nat.le_refl _) _) (Nat.le_refl _) _) (World.grownBy_alloc _ _ (some b))⟩
  ·go_wp2_with fail
   refine (bq b 11 _ (yy HS2) (by omega)).mono ?_
   rintro e w3 ⟨z0, rfl, _, _, _, hS, hg⟩
   have HS3 := yz hS
   replace Fr := yz ((yy Fr).grown (yy Vr).lt hg (by omega))
   replace Vr := yz ((yy Vr).grown hg (by omega))
   replace HG := yz (ak (yy HG) hg)
   clear hS hg HS2
   go_wp2_with fail
   refine (bq b 11 _ (yy HS3) (by omega)).mono ?_
   rintro e w4 ⟨z1, rfl, _, _, _, hS, hg⟩
   have HS4 := yz hS
   replace Fr := yz ((yy Fr).grown (yy Vr).lt hg (by omega))
   replace Vr := yz ((yy Vr).grown hg (by omega))
   replace HG := yz (ak (yy HG) hg)
   clear hS hg HS3
   go_wp2_with fail
   refine (bq b 11 _ (yy HS4) (by omega)).mono ?_
   rintro e w5 ⟨z2, rfl, _, _, _, hS, hg⟩
   have HS5 := yz hS
   replace Fr := yz ((yy Fr).grown (yy Vr).lt hg (by omega))
   replace Vr := yz ((yy Vr).grown hg (by omega))
   replace HG := yz (ak (yy HG) hg)
   clear hS hg HS4
   go_wp2_with fail
   refine (bq b 11 _ (yy HS5) (by omega)).mono ?_
   rintro e w6 ⟨z3, rfl, _, _, _, hS, hg⟩
   have HS6 := yz hS
   replace Fr := yz ((yy Fr).grown (yy Vr).lt hg (by omega))
   replace Vr := yz ((yy Vr).grown hg (by omega))
   replace HG := yz (ak (yy HG) hg)
   clear hS hg HS5
   go_wp2_with fail
   refine (fy _ _ _ _ _).mono ?_
   rintro e w7 ⟨p, q, r, s, k, rfl, hx⟩
   have Vr7 := yz ((yy Vr).kept (yy Vr).lt hx)
   have Fr7 := yz ((yy Fr).kept (yy Vr).lt hx)
   have HS7w := yz ((yy HS6).below hx)
   have HG7 := yz (ak (yy HG) (aY hx (some b)))
   have HLT : w.heap.size < w7.heap.size := ((yy Vr).kept (yy Vr).lt hx).lt
   replace Fr := yz (((yy Fr).kept (yy Vr).lt hx).kept ((yy Vr).kept (yy Vr).lt hx).lt (an w7 (.cells #[.int .i64 p, .int .i64 q, .int .i64 r, .int .i64 s, .int .i64 k] 48)))
   replace Vr := yz (((yy Vr).kept (yy Vr).lt hx).alloc (.cells #[.int .i64 p, .int .i64 q, .int .i64 r, .int .i64 s, .int .i64 k] 48))
   have Vx := yz (cg w7 p q r s k 48)
   have HS7 := yz ((((yy HS6).below hx)).allocs (.cells #[.int .i64 p, .int .i64 q, .int .i64 r, .int .i64 s, .int .i64 k] 48))
   replace HG := yz (ak (ak (yy HG) (aY hx (some b))) (World.grownBy_alloc w7 (.cells #[.int .i64 p, .int .i64 q, .int .i64 r, .int .i64 s, .int .i64 k] 48) (some b)))
   have hbx : b < w7.heap.size := Nat.lt_of_lt_of_le (yy HS6).lt hx.size
   clear hx HS6
   have vx := yy Vx
   obtain ⟨cx0, cx1, cx2, cx3, cx4⟩ := vx
   by_cases hk : k = 0
   ·subst hk
    go_wp2_with fail
    clear cx0 cx1 cx2 cx3 cx4
    refine (bO b 20 _ (yy HS7) (by omega)).mono ?_
    rintro e w8 ⟨y3, rfl, hS, hg⟩
    replace Vx := yz ((yy Vx).grown hg (by omega))
    have HS8 := yz hS
    replace Fr := yz ((yy Fr).grown (yy Vr).lt hg (by omega))
    replace Vr := yz ((yy Vr).grown hg (by omega))
    replace HG := yz (ak (yy HG) hg)
    clear hS hg HS7
    have hlt8 : w.heap.size < w7.heap.size := HLT
    have vx := yy Vx
    obtain ⟨cx0, cx1, cx2, cx3, cx4⟩ := vx
    obtain ⟨cr0, cr1, cr2, cr3⟩ := yy Vr
    obtain ⟨fr0, fr1, fr2, fr3⟩ := yy Fr
    have hbr : b < w.heap.size := hlt
    cases y3
    ·have HSX := HS8
     go_wp2_with fail
     exact bodyPost_ret (v := .agg #[.int .i64 p, .int .i64 q, .int .i64 r, .int .i64 s]) (by simp [results, Tryz.results32, go_sem, cr0, cr1, cr2, cr3]) rfl ⟨_, _, _, _, rfl, (((aU.set (yy HSX) hbr _).set hbr _).set hbr _).set hbr _, az (az (az (az (yy HG) (Nat.le_refl _) _) (Nat.le_refl _) _) (Nat.le_refl _) _) (Nat.le_refl _) _⟩
    ·have hne1 : w.heap.size ≠ w7.heap.size := by have := hlt8; omega
     have hne2 : w7.heap.size ≠ w.heap.size := Ne.symm hne1
     have HC : Hid (w8.cell? ⟨w7.heap.size, 0, none⟩ = some (.int .i64 p) ∧ w8.cell? ⟨w7.heap.size, 1, none⟩ = some (.int .i64 q) ∧ w8.cell? ⟨w7.heap.size, 2, none⟩ = some (.int .i64 r)) := yz ⟨cx0, cx1, cx2⟩
     clear cx0 cx1 cx2 cx3 cx4 cr0 cr1 cr2 cr3 fr0 fr1 fr2 fr3
     go_wp2_with fail
     have cN : Hid (Calls Tryz.prog 35 #[.pointer (some ⟨b, 0, none⟩), .int .i64 4] w8.drew fun e w' => ∃ z : Int, e = .returned (.int .i64 z) ∧ cd w' w7.heap.size p q r s 0 ∧ aG w' w.heap.size 0 0 0 0 ∧ ey w' w.heap.size ∧ Hid (aU b w') ∧ Hid (w.grownBy w' (some b))) := yz ((bq b 4 _ (yy HS8).drewT (by omega)).mono fun e w' ⟨z, he, _, _, _, hSn, hgn⟩ => ⟨z, he, (show cd w8.drew w7.heap.size p q r s 0 from yy Vx).grown hgn (by omega), (show aG w8.drew w.heap.size 0 0 0 0 from yy Vr).grown hgn (by omega), (show ey w8.drew w.heap.size from yy Fr).grown (yy Vr).lt hgn (by omega), yz hSn, yz (ak (gY (yy HG)) hgn)⟩)
     go_region_held (fun w' => w'.cell? ⟨w7.heap.size, 0, none⟩ = some (.int .i64 p) ∧ w'.cell? ⟨w7.heap.size, 1, none⟩ = some (.int .i64 q) ∧ w'.cell? ⟨w7.heap.size, 2, none⟩ = some (.int .i64 r)) (first | (with_reducible exact (yy HC)) | exact (yy HC) | (with_reducible exact ⟨q0, q1, q2⟩) | simp [go_sem, q0, q1, q2]) ((go_at_call 35; refine (yy cN).mono ?_; rintro e wn ⟨zz, rfl, ⟨q0, q1, q2, q3, q4⟩, ⟨cr0, cr1, cr2, cr3⟩, ⟨fr0, fr1, fr2, fr3⟩, HSX, HGX⟩))
     all_goals go_wp2
     all_goals exact bodyPost_ret (v := .agg #[.int .i64 p, .int .i64 q, .int .i64 r, .int .i64 (IntKind.i64.wrap (6 - IntKind.i64.wrap (2 * zz)))]) (by simp [results, Tryz.results32, go_sem, cr0, cr1, cr2, cr3]) rfl ⟨_, _, _, _, rfl, (((aU.set (yy HSX) hbr _).set hbr _).set hbr _).set hbr _, az (az (az (az (yy HGX) (Nat.le_refl _) _) (Nat.le_refl _) _) (Nat.le_refl _) _) (Nat.le_refl _) _⟩
   ·have hkb : (k != 0) = true := by simpa using hk
    have hkc : (k == 0) = false := by simpa using hk
    have hbr : b < w.heap.size := hlt
    obtain ⟨cr0, cr1, cr2, cr3⟩ := yy Vr7
    obtain ⟨fr0, fr1, fr2, fr3⟩ := yy Fr7
    clear Vx
    go_wp2_with fail
    obtain ⟨u0, u1, u2, u3⟩ := (ip (yy Vr7) 1 0 0 0).alloc (.cells #[.int .i64 p, .int .i64 q, .int .i64 r, .int .i64 s, .int .i64 k] 48)
    exact bodyPost_ret (v := .agg #[.int .i64 1, .int .i64 0, .int .i64 0, .int .i64 0]) (by simp [results, Tryz.results32, go_sem, u0, u1, u2, u3]) rfl ⟨_, _, _, _, rfl, ((((aU.set (yy HS7w) hbr _).set hbr _).set hbr _).set hbr _).allocs _, ak (az (az (az (az (yy HG7) (Nat.le_refl _) _) (Nat.le_refl _) _) (Nat.le_refl _) _) (Nat.le_refl _) _) (World.grownBy_alloc _ _ (some b))⟩
 ·go_wp2_with fail
  refine (bO b 10 _ (yy HS1) (by omega)).mono ?_
  rintro e w2 ⟨y2, rfl, hS, hg⟩
  have HS2 := yz hS
  replace Fr := yz ((yy Fr).grown (yy Vr).lt hg (by omega))
  replace Vr := yz ((yy Vr).grown hg (by omega))
  replace HG := yz (ak (yy HG) hg)
  clear hS hg HS1
  cases y2
  ·go_wp2_with fail
   refine (bq b 5 _ (yy HS2) (by omega)).mono ?_
   rintro e w3 ⟨z0, rfl, _, _, _, hS, hg⟩
   have HS3 := yz hS
   replace Fr := yz ((yy Fr).grown (yy Vr).lt hg (by omega))
   replace Vr := yz ((yy Vr).grown hg (by omega))
   replace HG := yz (ak (yy HG) hg)
   clear hS hg HS2
   go_wp2_with fail
   refine (bq b 5 _ (yy HS3) (by omega)).mono ?_
   rintro e w4 ⟨z1, rfl, _, _, _, hS, hg⟩
   have HS4 := yz hS
   replace Fr := yz ((yy Fr).grown (yy Vr).lt hg (by omega))
   replace Vr := yz ((yy Vr).grown hg (by omega))
   replace HG := yz (ak (yy HG) hg)
   clear hS hg HS3
   go_wp2_with fail
   refine (bq b 5 _ (yy HS4) (by omega)).mono ?_
   rintro e w5 ⟨z2, rfl, _, _, _, hS, hg⟩
   have HS5 := yz hS
   replace Fr := yz ((yy Fr).grown (yy Vr).lt hg (by omega))
   replace Vr := yz ((yy Vr).grown hg (by omega))
   replace HG := yz (ak (yy HG) hg)
   clear hS hg HS4
   go_wp2_with fail
   refine (bq b 5 _ (yy HS5) (by omega)).mono ?_
   rintro e w6 ⟨z3, rfl, _, _, _, hS, hg⟩
   have HS6 := yz hS
   replace Fr := yz ((yy Fr).grown (yy Vr).lt hg (by omega))
   replace Vr := yz ((yy Vr).grown hg (by omega))
   replace HG := yz (ak (yy HG) hg)
   clear hS hg HS5
   go_wp2_with fail
   refine (fy _ _ _ _ _).mono ?_
   rintro e w7 ⟨p, q, r, s, k, rfl, hx⟩
   have Vr7 := yz ((yy Vr).kept (yy Vr).lt hx)
   have Fr7 := yz ((yy Fr).kept (yy Vr).lt hx)
   have HS7w := yz ((yy HS6).below hx)
   have HG7 := yz (ak (yy HG) (aY hx (some b)))
   have HLT : w.heap.size < w7.heap.size := ((yy Vr).kept (yy Vr).lt hx).lt
   replace Fr := yz (((yy Fr).kept (yy Vr).lt hx).kept ((yy Vr).kept (yy Vr).lt hx).lt (an w7 (.cells #[.int .i64 p, .int .i64 q, .int .i64 r, .int .i64 s, .int .i64 k] 48)))
   replace Vr := yz (((yy Vr).kept (yy Vr).lt hx).alloc (.cells #[.int .i64 p, .int .i64 q, .int .i64 r, .int .i64 s, .int .i64 k] 48))
   have Vx := yz (cg w7 p q r s k 48)
   have HS7 := yz ((((yy HS6).below hx)).allocs (.cells #[.int .i64 p, .int .i64 q, .int .i64 r, .int .i64 s, .int .i64 k] 48))
   replace HG := yz (ak (ak (yy HG) (aY hx (some b))) (World.grownBy_alloc w7 (.cells #[.int .i64 p, .int .i64 q, .int .i64 r, .int .i64 s, .int .i64 k] 48) (some b)))
   have hbx : b < w7.heap.size := Nat.lt_of_lt_of_le (yy HS6).lt hx.size
   clear hx HS6
   have vx := yy Vx
   obtain ⟨cx0, cx1, cx2, cx3, cx4⟩ := vx
   by_cases hk : k = 0
   ·subst hk
    go_wp2_with fail
    clear cx0 cx1 cx2 cx3 cx4
    refine (bO b 20 _ (yy HS7) (by omega)).mono ?_
    rintro e w8 ⟨y3, rfl, hS, hg⟩
    replace Vx := yz ((yy Vx).grown hg (by omega))
    have HS8 := yz hS
    replace Fr := yz ((yy Fr).grown (yy Vr).lt hg (by omega))
    replace Vr := yz ((yy Vr).grown hg (by omega))
    replace HG := yz (ak (yy HG) hg)
    clear hS hg HS7
    have hlt8 : w.heap.size < w7.heap.size := HLT
    have vx := yy Vx
    obtain ⟨cx0, cx1, cx2, cx3, cx4⟩ := vx
    obtain ⟨cr0, cr1, cr2, cr3⟩ := yy Vr
    obtain ⟨fr0, fr1, fr2, fr3⟩ := yy Fr
    have hbr : b < w.heap.size := hlt
    cases y3
    ·have HSX := HS8
     go_wp2_with fail
     exact bodyPost_ret (v := .agg #[.int .i64 p, .int .i64 q, .int .i64 r, .int .i64 s]) (by simp [results, Tryz.results32, go_sem, cr0, cr1, cr2, cr3]) rfl ⟨_, _, _, _, rfl, (((aU.set (yy HSX) hbr _).set hbr _).set hbr _).set hbr _, az (az (az (az (yy HG) (Nat.le_refl _) _) (Nat.le_refl _) _) (Nat.le_refl _) _) (Nat.le_refl _) _⟩
    ·have hne1 : w.heap.size ≠ w7.heap.size := by have := hlt8; omega
     have hne2 : w7.heap.size ≠ w.heap.size := Ne.symm hne1
     have HC : Hid (w8.cell? ⟨w7.heap.size, 0, none⟩ = some (.int .i64 p) ∧ w8.cell? ⟨w7.heap.size, 1, none⟩ = some (.int .i64 q) ∧ w8.cell? ⟨w7.heap.size, 2, none⟩ = some (.int .i64 r)) := yz ⟨cx0, cx1, cx2⟩
     clear cx0 cx1 cx2 cx3 cx4 cr0 cr1 cr2 cr3 fr0 fr1 fr2 fr3
     go_wp2_with fail
     have cN : Hid (Calls Tryz.prog 35 #[.pointer (some ⟨b, 0, none⟩), .int .i64 4] w8.drew fun e w' => ∃ z : Int, e = .returned (.int .i64 z) ∧ cd w' w7.heap.size p q r s 0 ∧ aG w' w.heap.size 0 0 0 0 ∧ ey w' w.heap.size ∧ Hid (aU b w') ∧ Hid (w.grownBy w' (some b))) := yz ((bq b 4 _ (yy HS8).drewT (by omega)).mono fun e w' ⟨z, he, _, _, _, hSn, hgn⟩ => ⟨z, he, (show cd w8.drew w7.heap.size p q r s 0 from yy Vx).grown hgn (by omega), (show aG w8.drew w.heap.size 0 0 0 0 from yy Vr).grown hgn (by omega), (show ey w8.drew w.heap.size from yy Fr).grown (yy Vr).lt hgn (by omega), yz hSn, yz (ak (gY (yy HG)) hgn)⟩)
     go_region_held (fun w' => w'.cell? ⟨w7.heap.size, 0, none⟩ = some (.int .i64 p) ∧ w'.cell? ⟨w7.heap.size, 1, none⟩ = some (.int .i64 q) ∧ w'.cell? ⟨w7.heap.size, 2, none⟩ = some (.int .i64 r)) (first | (with_reducible exact (yy HC)) | exact (yy HC) | (with_reducible exact ⟨q0, q1, q2⟩) | simp [go_sem, q0, q1, q2]) ((go_at_call 35; refine (yy cN).mono ?_; rintro e wn ⟨zz, rfl, ⟨q0, q1, q2, q3, q4⟩, ⟨cr0, cr1, cr2, cr3⟩, ⟨fr0, fr1, fr2, fr3⟩, HSX, HGX⟩))
     all_goals go_wp2
     all_goals exact bodyPost_ret (v := .agg #[.int .i64 p, .int .i64 q, .int .i64 r, .int .i64 (IntKind.i64.wrap (6 - IntKind.i64.wrap (2 * zz)))]) (by simp [results, Tryz.results32, go_sem, cr0, cr1, cr2, cr3]) rfl ⟨_, _, _, _, rfl, (((aU.set (yy HSX) hbr _).set hbr _).set hbr _).set hbr _, az (az (az (az (yy HGX) (Nat.le_refl _) _) (Nat.le_refl _) _) (Nat.le_refl _) _) (Nat.le_refl _) _⟩
   ·have hkb : (k != 0) = true := by simpa using hk
    have hkc : (k == 0) = false := by simpa using hk
    have hbr : b < w.heap.size := hlt
    obtain ⟨cr0, cr1, cr2, cr3⟩ := yy Vr7
    obtain ⟨fr0, fr1, fr2, fr3⟩ := yy Fr7
    clear Vx
    go_wp2_with fail
    obtain ⟨u0, u1, u2, u3⟩ := (ip (yy Vr7) 1 0 0 0).alloc (.cells #[.int .i64 p, .int .i64 q, .int .i64 r, .int .i64 s, .int .i64 k] 48)
    exact bodyPost_ret (v := .agg #[.int .i64 1, .int .i64 0, .int .i64 0, .int .i64 0]) (by simp [results, Tryz.results32, go_sem, u0, u1, u2, u3]) rfl ⟨_, _, _, _, rfl, ((((aU.set (yy HS7w) hbr _).set hbr _).set hbr _).set hbr _).allocs _, ak (az (az (az (az (yy HG7) (Nat.le_refl _) _) (Nat.le_refl _) _) (Nat.le_refl _) _) (Nat.le_refl _) _) (World.grownBy_alloc _ _ (some b))⟩
  ·go_wp2_with fail
   refine (bq b 11 _ (yy HS2) (by omega)).mono ?_
   rintro e w3 ⟨z0, rfl, _, _, _, hS, hg⟩
   have HS3 := yz hS
   replace Fr := yz ((yy Fr).grown (yy Vr).lt hg (by omega))
   replace Vr := yz ((yy Vr).grown hg (by omega))
   replace HG := yz (ak (yy HG) hg)
   clear hS hg HS2
   go_wp2_with fail
   refine (bq b 11 _ (yy HS3) (by omega)).mono ?_
   rintro e w4 ⟨z1, rfl, _, _, _, hS, hg⟩
   have HS4 := yz hS
   replace Fr := yz ((yy Fr).grown (yy Vr).lt hg (by omega))
   replace Vr := yz ((yy Vr).grown hg (by omega))
   replace HG := yz (ak (yy HG) hg)
   clear hS hg HS3
   go_wp2_with fail
   refine (bq b 11 _ (yy HS4) (by omega)).mono ?_
   rintro e w5 ⟨z2, rfl, _, _, _, hS, hg⟩
   have HS5 := yz hS
   replace Fr := yz ((yy Fr).grown (yy Vr).lt hg (by omega))
   replace Vr := yz ((yy Vr).grown hg (by omega))
   replace HG := yz (ak (yy HG) hg)
   clear hS hg HS4
   go_wp2_with fail
   refine (bq b 11 _ (yy HS5) (by omega)).mono ?_
   rintro e w6 ⟨z3, rfl, _, _, _, hS, hg⟩
   have HS6 := yz hS
   replace Fr := yz ((yy Fr).grown (yy Vr).lt hg (by omega))
   replace Vr := yz ((yy Vr).grown hg (by omega))
   replace HG := yz (ak (yy HG) hg)
   clear hS hg HS5
   go_wp2_with fail
   refine (fy _ _ _ _ _).mono ?_
   rintro e w7 ⟨p, q, r, s, k, rfl, hx⟩
   have Vr7 := yz ((yy Vr).kept (yy Vr).lt hx)
   have Fr7 := yz ((yy Fr).kept (yy Vr).lt hx)
   have HS7w := yz ((yy HS6).below hx)
   have HG7 := yz (ak (yy HG) (aY hx (some b)))
   have HLT : w.heap.size < w7.heap.size := ((yy Vr).kept (yy Vr).lt hx).lt
   replace Fr := yz (((yy Fr).kept (yy Vr).lt hx).kept ((yy Vr).kept (yy Vr).lt hx).lt (an w7 (.cells #[.int .i64 p, .int .i64 q, .int .i64 r, .int .i64 s, .int .i64 k] 48)))
   replace Vr := yz (((yy Vr).kept (yy Vr).lt hx).alloc (.cells #[.int .i64 p, .int .i64 q, .int .i64 r, .int .i64 s, .int .i64 k] 48))
   have Vx := yz (cg w7 p q r s k 48)
   have HS7 := yz ((((yy HS6).below hx)).allocs (.cells #[.int .i64 p, .int .i64 q, .int .i64 r, .int .i64 s, .int .i64 k] 48))
   replace HG := yz (ak (ak (yy HG) (aY hx (some b))) (World.grownBy_alloc w7 (.cells #[.int .i64 p, .int .i64 q, .int .i64 r, .int .i64 s, .int .i64 k] 48) (some b)))
   have hbx : b < w7.heap.size := Nat.lt_of_lt_of_le (yy HS6).lt hx.size
   clear hx HS6
   have vx := yy Vx
   obtain ⟨cx0, cx1, cx2, cx3, cx4⟩ := vx
   by_cases hk : k = 0
   ·subst hk
    go_wp2_with fail
    clear cx0 cx1 cx2 cx3 cx4
    refine (bO b 20 _ (yy HS7) (by omega)).mono ?_
    rintro e w8 ⟨y3, rfl, hS, hg⟩
    replace Vx := yz ((yy Vx).grown hg (by omega))
    have HS8 := yz hS
    replace Fr := yz ((yy Fr).grown (yy Vr).lt hg (by omega))
    replace Vr := yz ((yy Vr).grown hg (by omega))
    replace HG := yz (ak (yy HG) hg)
    clear hS hg HS7
    have hlt8 : w.heap.size < w7.heap.size := HLT
    have vx := yy Vx
    obtain ⟨cx0, cx1, cx2, cx3, cx4⟩ := vx
    obtain ⟨cr0, cr1, cr2, cr3⟩ := yy Vr
    obtain ⟨fr0, fr1, fr2, fr3⟩ := yy Fr
    have hbr : b < w.heap.size := hlt
    cases y3
    ·have HSX := HS8
     go_wp2_with fail
     exact bodyPost_ret (v := .agg #[.int .i64 p, .int .i64 q, .int .i64 r, .int .i64 s]) (by simp [results, Tryz.results32, go_sem, cr0, cr1, cr2, cr3]) rfl ⟨_, _, _, _, rfl, (((aU.set (yy HSX) hbr _).set hbr _).set hbr _).set hbr _, az (az (az (az (yy HG) (Nat.le_refl _) _) (Nat.le_refl _) _) (Nat.le_refl _) _) (Nat.le_refl _) _⟩
    ·have hne1 : w.heap.size ≠ w7.heap.size := by have := hlt8; omega
     have hne2 : w7.heap.size ≠ w.heap.size := Ne.symm hne1
     have HC : Hid (w8.cell? ⟨w7.heap.size, 0, none⟩ = some (.int .i64 p) ∧ w8.cell? ⟨w7.heap.size, 1, none⟩ = some (.int .i64 q) ∧ w8.cell? ⟨w7.heap.size, 2, none⟩ = some (.int .i64 r)) := yz ⟨cx0, cx1, cx2⟩
     clear cx0 cx1 cx2 cx3 cx4 cr0 cr1 cr2 cr3 fr0 fr1 fr2 fr3
     go_wp2_with fail
     have cN : Hid (Calls Tryz.prog 35 #[.pointer (some ⟨b, 0, none⟩), .int .i64 4] w8.drew fun e w' => ∃ z : Int, e = .returned (.int .i64 z) ∧ cd w' w7.heap.size p q r s 0 ∧ aG w' w.heap.size 0 0 0 0 ∧ ey w' w.heap.size ∧ Hid (aU b w') ∧ Hid (w.grownBy w' (some b))) := yz ((bq b 4 _ (yy HS8).drewT (by omega)).mono fun e w' ⟨z, he, _, _, _, hSn, hgn⟩ => ⟨z, he, (show cd w8.drew w7.heap.size p q r s 0 from yy Vx).grown hgn (by omega), (show aG w8.drew w.heap.size 0 0 0 0 from yy Vr).grown hgn (by omega), (show ey w8.drew w.heap.size from yy Fr).grown (yy Vr).lt hgn (by omega), yz hSn, yz (ak (gY (yy HG)) hgn)⟩)
     go_region_held (fun w' => w'.cell? ⟨w7.heap.size, 0, none⟩ = some (.int .i64 p) ∧ w'.cell? ⟨w7.heap.size, 1, none⟩ = some (.int .i64 q) ∧ w'.cell? ⟨w7.heap.size, 2, none⟩ = some (.int .i64 r)) (first | (with_reducible exact (yy HC)) | exact (yy HC) | (with_reducible exact ⟨q0, q1, q2⟩) | simp [go_sem, q0, q1, q2]) ((go_at_call 35; refine (yy cN).mono ?_; rintro e wn ⟨zz, rfl, ⟨q0, q1, q2, q3, q4⟩, ⟨cr0, cr1, cr2, cr3⟩, ⟨fr0, fr1, fr2, fr3⟩, HSX, HGX⟩))
     all_goals go_wp2
     all_goals exact bodyPost_ret (v := .agg #[.int .i64 p, .int .i64 q, .int .i64 r, .int .i64 (IntKind.i64.wrap (6 - IntKind.i64.wrap (2 * zz)))]) (by simp [results, Tryz.results32, go_sem, cr0, cr1, cr2, cr3]) rfl ⟨_, _, _, _, rfl, (((aU.set (yy HSX) hbr _).set hbr _).set hbr _).set hbr _, az (az (az (az (yy HGX) (Nat.le_refl _) _) (Nat.le_refl _) _) (Nat.le_refl _) _) (Nat.le_refl _) _⟩
   ·have hkb : (k != 0) = true := by simpa using hk
    have hkc : (k == 0) = false := by simpa using hk
    have hbr : b < w.heap.size := hlt
    obtain ⟨cr0, cr1, cr2, cr3⟩ := yy Vr7
    obtain ⟨fr0, fr1, fr2, fr3⟩ := yy Fr7
    clear Vx
    go_wp2_with fail
    obtain ⟨u0, u1, u2, u3⟩ := (ip (yy Vr7) 1 0 0 0).alloc (.cells #[.int .i64 p, .int .i64 q, .int .i64 r, .int .i64 s, .int .i64 k] 48)
    exact bodyPost_ret (v := .agg #[.int .i64 1, .int .i64 0, .int .i64 0, .int .i64 0]) (by simp [results, Tryz.results32, go_sem, u0, u1, u2, u3]) rfl ⟨_, _, _, _, rfl, ((((aU.set (yy HS7w) hbr _).set hbr _).set hbr _).set hbr _).allocs _, ak (az (az (az (az (yy HG7) (Nat.le_refl _) _) (Nat.le_refl _) _) (Nat.le_refl _) _) (Nat.le_refl _) _) (World.grownBy_alloc _ _ (some b))⟩
end
section
open Go.RowKit Go.Sort
def lO (L : List St) (lim : Int) : Bool := aP L && de 1 5 lim
def lP (L : List St) (lim : Int) : Tk := if 400 < L.length then fA else if lO L lim = true then ⟨L, lim, 0, 0, 0, 0, 0, 0, 0⟩ else fA
def oz (L : List St) (lim : Int) : Int := if 400 < L.length then 2 else if lO L lim = true then 0 else 1
theorem ko (L : List St) (lim : Int) (b o c : Nat) (w : World) (hn : L.length ≤ 1048576) (hS : aI w (some ⟨b, o, none⟩) L L.length) :
  Calls Tryz.prog 17 #[.slice (some ⟨b, o, none⟩) L.length c, .int .i64 lim] w fun e w' => qn w' w.heap.size (lP L lim) (oz L lim) e ∧ Below w.heap.size w w' := by
 have B0 := an w (.cells #[.slice none 0 0, .int .i64 0, .int .i64 0, .int .i64 0, .int .i64 0, .int .i64 0, .int .i64 0, .int .i64 0, .int .i64 0, .int .i64 0] 32)
 have R0 := oS w (.slice none 0 0) 0 0 0 0 0 0 0 0 0 32
 have G0 := dL w #[.slice none 0 0, .int .i64 0, .int .i64 0, .int .i64 0, .int .i64 0, .int .i64 0, .int .i64 0, .int .i64 0, .int .i64 0, .int .i64 0] 32
 have S0 := hS.kept B0
 have hsz : w.heap.size + 1 ≤ (w.alloc (.cells #[.slice none 0 0, .int .i64 0, .int .i64 0, .int .i64 0, .int .i64 0, .int .i64 0, .int .i64 0, .int .i64 0, .int .i64 0, .int .i64 0] 32)).heap.size := by simp
 have cR := yz (fun W h => eK L (some ⟨b, o, none⟩) c W hn h)
 have HB := yz B0
 have HR := yz R0
 have HG := yz G0
 have HS := yz S0
 clear B0 R0 G0 S0 hS
 by_cases h4 : 400 < L.length
 ·have h4' : (400 : Int) < (L.length : Int) := by omega
  have HO1 : Hid (lP L lim = fA) := yz (by unfold lP; rw [if_pos h4])
  have HO2 : Hid (oz L lim = 2) := yz (by unfold oz; rw [if_pos h4])
  clear h4
  go_enter Tryz.func17, Tryz.ntmps17
  go_wp2_with fail
  refine (dm 2 _).mono ?_
  rintro e w2 ⟨rfl, hx⟩
  have B2 := yz (aj (yy HB) hx)
  have R2 := yz ((yy HR).kept hx)
  have G2 := yz ((yy HG).kept (yy HR).lt hx)
  clear hx HB HR HG
  obtain ⟨⟨r0, r1, r2, r3, r4, r5, r6, r7, r8⟩, r9⟩ := yy R2
  have g0 := yy G2 0
  have g1 := yy G2 1
  have g2 := yy G2 2
  have g3 := yy G2 3
  have g4 := yy G2 4
  have g5 := yy G2 5
  have g6 := yy G2 6
  have g7 := yy G2 7
  have g8 := yy G2 8
  have g9 := yy G2 9
  go_wp2_with fail
  clear r0 r1 r2 r3 r4 r5 r6 r7 r8 r9 g0 g1 g2 g3 g4 g5 g6 g7 g8 g9
  refine bodyPost_ret (v := .agg #[.slice none 0 0, .int .i64 0, .int .i64 0, .int .i64 0, .int .i64 0, .int .i64 0, .int .i64 0, .int .i64 0, .int .i64 0, .int .i64 2]) ?_ rfl ⟨?_, ?_⟩
  ·refine jk _ _ w.heap.size _ 0 0 0 0 0 0 0 0 2 rfl ?_
   exact ch (yy R2) _ _ _ _ _ _ _ _ _ _
  ·rw [yy HO1, yy HO2]
   exact bW _ _ _
  ·iterate 10 (refine aE ?_ (Nat.le_refl w.heap.size) _ _)
   exact yy B2
 have h4' : ¬ (400 : Int) < (L.length : Int) := by omega
 go_enter Tryz.func17, Tryz.ntmps17
 go_wp2_with fail
 refine (yy cR _ (yy HS)).mono ?_
 rintro e w1 ⟨rfl, hx⟩
 have B1 := yz (aj (yy HB) hx)
 have R1 := yz ((yy HR).kept hx)
 have G1 := yz ((yy HG).kept (yy HR).lt hx)
 have S1 := yz ((yy HS).kept hx)
 have hsz1 : w.heap.size + 1 ≤ w1.heap.size := Nat.le_trans hsz hx.size
 clear hx HB HR HG HS hsz cR
 have hill : lO L lim = false → Hid (lP L lim = fA) ∧ Hid (oz L lim = 1) := fun h => ⟨yz (by unfold lP; rw [if_neg h4, h]; rfl), yz (by unfold oz; rw [if_neg h4, h]; rfl)⟩
 cases hk : aP L
 ·obtain ⟨HO1, HO2⟩ := hill (by unfold lO; rw [hk]; rfl)
  clear hill
  go_wp2_with fail
  refine (dm 1 _).mono ?_
  rintro e w2 ⟨rfl, hx⟩
  have B2 := yz (aj (yy B1) hx)
  have R2 := yz ((yy R1).kept hx)
  have G2 := yz ((yy G1).kept (yy R1).lt hx)
  clear hx B1 R1 G1
  obtain ⟨⟨r0, r1, r2, r3, r4, r5, r6, r7, r8⟩, r9⟩ := yy R2
  have g0 := yy G2 0
  have g1 := yy G2 1
  have g2 := yy G2 2
  have g3 := yy G2 3
  have g4 := yy G2 4
  have g5 := yy G2 5
  have g6 := yy G2 6
  have g7 := yy G2 7
  have g8 := yy G2 8
  have g9 := yy G2 9
  go_wp2_with fail
  clear r0 r1 r2 r3 r4 r5 r6 r7 r8 r9 g0 g1 g2 g3 g4 g5 g6 g7 g8 g9
  refine bodyPost_ret (v := .agg #[.slice none 0 0, .int .i64 0, .int .i64 0, .int .i64 0, .int .i64 0, .int .i64 0, .int .i64 0, .int .i64 0, .int .i64 0, .int .i64 1]) ?_ rfl ⟨?_, ?_⟩
  ·refine jk _ _ w.heap.size _ 0 0 0 0 0 0 0 0 1 rfl ?_
   exact ch (yy R2) _ _ _ _ _ _ _ _ _ _
  ·rw [yy HO1, yy HO2]
   exact bW _ _ _
  ·iterate 10 (refine aE ?_ (Nat.le_refl w.heap.size) _ _)
   exact yy B2
 go_wp2_with fail
 refine (ft lim 1 5 _).mono ?_
 rintro e w2 ⟨rfl, hw⟩
 rw [hw]
 clear hw w2
 cases hl : de 1 5 lim
 ·obtain ⟨HO1, HO2⟩ := hill (by unfold lO; rw [hk, hl]; rfl)
  clear hill
  go_wp2_with fail
  refine (dm 1 _).mono ?_
  rintro e w2 ⟨rfl, hx⟩
  have B2 := yz (aj (yy B1) hx)
  have R2 := yz ((yy R1).kept hx)
  have G2 := yz ((yy G1).kept (yy R1).lt hx)
  clear hx B1 R1 G1
  obtain ⟨⟨r0, r1, r2, r3, r4, r5, r6, r7, r8⟩, r9⟩ := yy R2
  have g0 := yy G2 0
  have g1 := yy G2 1
  have g2 := yy G2 2
  have g3 := yy G2 3
  have g4 := yy G2 4
  have g5 := yy G2 5
  have g6 := yy G2 6
  have g7 := yy G2 7
  have g8 := yy G2 8
  have g9 := yy G2 9
  go_wp2_with fail
  clear r0 r1 r2 r3 r4 r5 r6 r7 r8 r9 g0 g1 g2 g3 g4 g5 g6 g7 g8 g9
  refine bodyPost_ret (v := .agg #[.slice none 0 0, .int .i64 0, .int .i64 0, .int .i64 0, .int .i64 0, .int .i64 0, .int .i64 0, .int .i64 0, .int .i64 0, .int .i64 1]) ?_ rfl ⟨?_, ?_⟩
  ·refine jk _ _ w.heap.size _ 0 0 0 0 0 0 0 0 1 rfl ?_
   exact ch (yy R2) _ _ _ _ _ _ _ _ _ _
  ·rw [yy HO1, yy HO2]
   exact bW _ _ _
  ·iterate 10 (refine aE ?_ (Nat.le_refl w.heap.size) _ _)
   exact yy B2
 have HO1 : Hid (lP L lim = ⟨L, lim, 0, 0, 0, 0, 0, 0, 0⟩) := yz (by unfold lP lO; rw [if_neg h4, hk, hl]; rfl)
 have HO2 : Hid (oz L lim = 0) := yz (by unfold oz lO; rw [if_neg h4, hk, hl]; rfl)
 clear hill hk hl h4
 have Z1 := an w1 (.cells #[] 80)
 have S2 := (yy S1).kept Z1
 have B2 := yz (aj (yy B1) Z1)
 have R2 := yz ((yy R1).kept Z1)
 have G2 := yz ((yy G1).kept (yy R1).lt Z1)
 have N2 := fN w1 (w.heap.size + 1) hsz1
 have hcells := yz (kq S2)
 have HN := yz N2
 clear Z1 S2 B1 R1 G1 S1 N2
 obtain ⟨i0, hinf, hz0, hz1, hz2⟩ := info_parts hH
 go_wp2_with (at_builtin; refine wpList_append_own _ rfl _ _ 23 rfl (w.heap.size + 1) 80 i0 (.agg #[.int .i64 0, .int .i64 0, .int .i64 0, .int .i64 0]) 4 32 Tryz.underlying23 hinf hz0 hz1 hz2 rfl (by decide) _ _ _ rfl (yy HN) ⟨b, o, none⟩ L.length c (aV L) rfl (dD L) (yy hcells) (fun u hu => dV hu) ?d1 ?d2 ?d3 ?_)
 case d1 =>
  have : 1048576 ≤ maxLen := by decide +kernel
  omega
 case d2 => omega
 case d3 => simp; omega
 intro v' w3 ho hg _
 obtain ⟨a, cap, rfl, hC⟩ := gz ho
 have hne : ∀ g, Value.ownBlock (.slice (some ⟨w1.heap.size, 0, none⟩) 0 0) = some g → w.heap.size + 1 ≤ g := fun g e => by simp [Value.ownBlock] at e; omega
 have B3 := yz (eB (yy B2) hg (yy B2).size (fun g e => by have := hne g e; omega))
 have R3 := yz ((yy R2).grown hg (fun e => by have := hne _ e.symm; omega))
 have G3 := yz ((yy G2).grown (yy R2).lt hg (fun e => by have := hne _ e.symm; omega))
 have C3 := yz hC
 clear ho hg hC hne B2 R2 G2 HN hcells
 obtain ⟨⟨r0, r1, r2, r3, r4, r5, r6, r7, r8⟩, r9⟩ := yy R3
 have g0 := yy G3 0
 have g1 := yy G3 1
 have g2 := yy G3 2
 have g3 := yy G3 3
 have g4 := yy G3 4
 have g5 := yy G3 5
 have g6 := yy G3 6
 have g7 := yy G3 7
 have g8 := yy G3 8
 have g9 := yy G3 9
 go_wp2_with fail
 clear r0 r1 r2 r3 r4 r5 r6 r7 r8 r9 g0 g1 g2 g3 g4 g5 g6 g7 g8 g9
 refine bodyPost_ret (v := .agg #[.slice a L.length cap, .int .i64 lim, .int .i64 0, .int .i64 0, .int .i64 0, .int .i64 0, .int .i64 0, .int .i64 0, .int .i64 0, .int .i64 0]) ?_ rfl ⟨?_, ?_⟩
 ·refine jk _ _ w.heap.size _ lim 0 0 0 0 0 0 0 0 rfl ?_
  exact ch (yy R3) _ _ _ _ _ _ _ _ _ _
 ·rw [yy HO1, yy HO2]
  refine ⟨a, cap, rfl, ?_⟩
  refine ay.low (B := w.heap.size + 1) ?_ (by omega)
  iterate 10 (refine ay.far ?_ (Nat.lt_succ_self w.heap.size) _ _)
  exact yy C3
 ·iterate 10 (refine aE ?_ (Nat.le_refl w.heap.size) _ _)
  exact yy B3
end
end Go.Proofs.YtgiodlllokdcdaaGreatDoor
