/- Several texts in one: DrawT1, ModB, ModH, ModJ, DrawT2, TextMath, TurnS, DrawT5, SpL5, CrcMath, SealMath, PutText, GetText. -/
import Derived.Deep.DeepCutAuto
import Derived.Deep.RegionHeld
import Derived.Lib.ItoaMem
import Derived.Lib.Join
import Derived.Deep.RegionWith
import Derived.Deep.QuietTactic
import Derived.BigQuiet
import Derived.Laws.BytesArg
import Derived.RegionTactic
import Derived.BigRegion
import Derived.Test.YthoiooefclbecaaGreatDoorQFnSkyOwn19
import Derived.Test.YthoiooefclbecaaGreatDoorQFnSkyOwn3
import Derived.Test.YthoiooefclbecaaGreatDoorQFnSkyOwn1
import Derived.Test.YthoiooefclbecaaGreatDoorQFnSkyOwn2
import Derived.Test.YthoiooefclbecaaGreatDoorQFnSkyOwn9
import Derived.Test.YthoiooefclbecaaGreatDoorQFnSkyOwn6
import Derived.Test.YthoiooefclbecaaGreatDoorQFnSkyOwn7
import Derived.Test.YthoiooefclbecaaGreatDoorQFnSkyOwn16
import Derived.Test.YthoiooefclbecaaGreatDoorQFnSkyOwn13
namespace Go.Proofs.YthoiooefclbecaaGreatDoor
set_option linter.unusedVariables false
set_option linter.unusedSimpArgs false
set_option maxRecDepth 100000
set_option maxHeartbeats 8000000
section
open Go.RowKit
theorem bV {w w' : World} (h : Below w.heap.size w w') (row : Option Nat) : w.grownBy w' row := ⟨h.os, h.tape, h.output, h.size, fun i hi _ => h.block i hi⟩
theorem aI.below {b : Nat} {w w' : World} (h : aI b w) (hB : Below w.heap.size w w') : aI b w' := h.kept (bV hB none) (fun _ e => by cases e)
theorem aG.grown {w w' : World} {b c : Nat} {p q r s : Int} (h : aG w b p q r s) (hg : w.grownBy w' (some c)) (hne : b ≠ c) : aG w' b p q r s := by
 obtain ⟨h0, h1, h2, h3⟩ := h
 have hn : ∀ i, some (⟨b, i, none⟩ : Addr).block ≠ some c := fun i e => hne (Option.some.inj e)
 exact ⟨hg.cell h0 (hn 0), hg.cell h1 (hn 1), hg.cell h2 (hn 2), hg.cell h3 (hn 3)⟩
theorem dx.grown {w w' : World} {b c : Nat} (h : dx w b) (hb : b < w.heap.size) (hg : w.grownBy w' (some c)) (hne : b ≠ c) : dx w' b := by
 obtain ⟨h0, h1, h2, h3⟩ := h
 have hf : ∀ i, w'.frozen? ⟨b, i, none⟩ = w.frozen? ⟨b, i, none⟩ := fun i => World.frozen?_of_block (hg.block b hb (fun e => hne (Option.some.inj e)))
 exact ⟨by rw [hf]; exact h0, by rw [hf]; exact h1, by rw [hf]; exact h2, by rw [hf]; exact h3⟩
theorem bX.grown {w w' : World} {b c : Nat} {p q r s k : Int} (h : bX w b p q r s k) (hg : w.grownBy w' (some c)) (hne : b ≠ c) : bX w' b p q r s k := by
 obtain ⟨h0, h1, h2, h3, h4⟩ := h
 have hn : ∀ i, some (⟨b, i, none⟩ : Addr).block ≠ some c := fun i e => hne (Option.some.inj e)
 exact ⟨hg.cell h0 (hn 0), hg.cell h1 (hn 1), hg.cell h2 (hn 2), hg.cell h3 (hn 3), hg.cell h4 (hn 4)⟩
theorem fW {w : World} {b : Nat} {p q r s : Int} (h : aG w b p q r s) (x y z u : Int) : aG ((((w.setCell ⟨b, 0, none⟩ (.int .i64 x)).setCell ⟨b, 1, none⟩ (.int .i64 y)).setCell ⟨b, 2, none⟩ (.int .i64 z)).setCell ⟨b, 3, none⟩ (.int .i64 u)) b x y z u := by
 obtain ⟨h0, h1, h2, h3⟩ := h
 refine ⟨?_, ?_, ?_, ?_⟩ <;> simp [go_sem, h0, h1, h2, h3]
theorem fH {a w : World} {row : Option Nat} (h : a.grownBy w row) : a.grownBy w.drew row := ⟨h.os, h.tape, h.output, h.size, h.block⟩
theorem aI.drewT {b : Nat} {w : World} (h : aI b w) : aI b w.drew := h.kept (row := none) ⟨rfl, rfl, rfl, Nat.le_refl _, fun _ _ _ => rfl⟩ (fun _ e => by cases e)
theorem eG (a b c d : Int) (w : World) :
  Calls Tryz.prog 91 #[.int .i64 a, .int .i64 b, .int .i64 c, .int .i64 d] w fun e w' => ∃ p q r s k : Int, e = .returned (.agg #[.int .i64 p, .int .i64 q, .int .i64 r, .int .i64 s, .int .i64 k]) ∧ Below w.heap.size w w' :=
 (kD a b c d w).mono fun e w' h => ⟨_, _, _, _, _, h.1, h.2⟩
theorem iV (b : Nat) (w : World) (hS : aI b w) :
  Calls Tryz.prog 45 #[.pointer (some ⟨b, 0, none⟩)] w fun e w' => ∃ p q r s : Int, e = .returned (.agg #[.int .i64 p, .int .i64 q, .int .i64 r, .int .i64 s]) ∧ aI b w' ∧ w.grownBy w' (some b) := by
 have hlt := hS.lt
 have HS := yz hS
 clear hS
 go_enter Tryz.func45, Tryz.ntmps45
 go_wp2_with fail
 refine (bO b 3 _ ((yy HS).allocs _) (by omega)).mono ?_
 rintro e w1 ⟨y, rfl, hS1, hg1⟩
 have vr := (bc w 0 0 0 0 37).grown hg1 (by omega)
 have fr := (lw w 0 0 0 0 37).grown (by simp) hg1 (by omega)
 have hg := al (World.grownBy_alloc w _ (some b)) hg1
 have HS1 := yz hS1
 have Vr := yz vr
 have Fr := yz fr
 have HG := yz hg
 clear hS1 hg1 vr fr hg
 cases y
 ·go_wp2_with fail
  refine (bO b 10 _ (yy HS1) (by omega)).mono ?_
  rintro e w2 ⟨y2, rfl, hS, hg⟩
  have HS2 := yz hS
  replace Fr := yz ((yy Fr).grown (yy Vr).lt hg (by omega))
  replace Vr := yz ((yy Vr).grown hg (by omega))
  replace HG := yz (al (yy HG) hg)
  clear hS hg HS1
  cases y2
  ·go_wp2_with fail
   refine (aT b 3 _ (yy HS2) (by omega)).mono ?_
   rintro e w3 ⟨z0, rfl, _, _, _, hS, hg⟩
   have HS3 := yz hS
   replace Fr := yz ((yy Fr).grown (yy Vr).lt hg (by omega))
   replace Vr := yz ((yy Vr).grown hg (by omega))
   replace HG := yz (al (yy HG) hg)
   clear hS hg HS2
   go_wp2_with fail
   refine (aT b 3 _ (yy HS3) (by omega)).mono ?_
   rintro e w4 ⟨z1, rfl, _, _, _, hS, hg⟩
   have HS4 := yz hS
   replace Fr := yz ((yy Fr).grown (yy Vr).lt hg (by omega))
   replace Vr := yz ((yy Vr).grown hg (by omega))
   replace HG := yz (al (yy HG) hg)
   clear hS hg HS3
   go_wp2_with fail
   refine (aT b 3 _ (yy HS4) (by omega)).mono ?_
   rintro e w5 ⟨z2, rfl, _, _, _, hS, hg⟩
   have HS5 := yz hS
   replace Fr := yz ((yy Fr).grown (yy Vr).lt hg (by omega))
   replace Vr := yz ((yy Vr).grown hg (by omega))
   replace HG := yz (al (yy HG) hg)
   clear hS hg HS4
   go_wp2_with fail
   refine (aT b 3 _ (yy HS5) (by omega)).mono ?_
   rintro e w6 ⟨z3, rfl, _, _, _, hS, hg⟩
   have HS6 := yz hS
   replace Fr := yz ((yy Fr).grown (yy Vr).lt hg (by omega))
   replace Vr := yz ((yy Vr).grown hg (by omega))
   replace HG := yz (al (yy HG) hg)
   clear hS hg HS5
   go_wp2_with fail
   refine (eG _ _ _ _ _).mono ?_
   rintro e w7 ⟨p, q, r, s, k, rfl, hx⟩
   have Vr7 := yz ((yy Vr).kept (yy Vr).lt hx)
   have Fr7 := yz ((yy Fr).kept (yy Vr).lt hx)
   have HS7w := yz ((yy HS6).below hx)
   have HG7 := yz (al (yy HG) (bV hx (some b)))
   have HLT : w.heap.size < w7.heap.size := ((yy Vr).kept (yy Vr).lt hx).lt
   replace Fr := yz (((yy Fr).kept (yy Vr).lt hx).kept ((yy Vr).kept (yy Vr).lt hx).lt (am w7 (.cells #[.int .i64 p, .int .i64 q, .int .i64 r, .int .i64 s, .int .i64 k] 123)))
   replace Vr := yz (((yy Vr).kept (yy Vr).lt hx).alloc (.cells #[.int .i64 p, .int .i64 q, .int .i64 r, .int .i64 s, .int .i64 k] 123))
   have Vx := yz (ea w7 p q r s k 123)
   have HS7 := yz ((((yy HS6).below hx)).allocs (.cells #[.int .i64 p, .int .i64 q, .int .i64 r, .int .i64 s, .int .i64 k] 123))
   replace HG := yz (al (al (yy HG) (bV hx (some b))) (World.grownBy_alloc w7 (.cells #[.int .i64 p, .int .i64 q, .int .i64 r, .int .i64 s, .int .i64 k] 123) (some b)))
   have hbx : b < w7.heap.size := Nat.lt_of_lt_of_le (yy HS6).lt hx.size
   clear hx HS6
   have vx := yy Vx
   obtain ⟨cx0, cx1, cx2, cx3, cx4⟩ := vx
   by_cases hk : k = 0
   ·subst hk
    go_wp2_with fail
    clear cx0 cx1 cx2 cx3 cx4
    refine (bO b 20 _ (yy HS7) (by omega)).mono ?_
    rintro e w8 ⟨y3, rfl, hS, hg⟩
    replace Vx := yz ((yy Vx).grown hg (by omega))
    have HS8 := yz hS
    replace Fr := yz ((yy Fr).grown (yy Vr).lt hg (by omega))
    replace Vr := yz ((yy Vr).grown hg (by omega))
    replace HG := yz (al (yy HG) hg)
    clear hS hg HS7
    have hlt8 : w.heap.size < w7.heap.size := HLT
    have vx := yy Vx
    obtain ⟨cx0, cx1, cx2, cx3, cx4⟩ := vx
    obtain ⟨cr0, cr1, cr2, cr3⟩ := yy Vr
    obtain ⟨fr0, fr1, fr2, fr3⟩ := yy Fr
    have hbr : b < w.heap.size := hlt
    cases y3
    ·have HSX := HS8
     go_wp2_with fail
     exact bodyPost_ret (v := .agg #[.int .i64 p, .int .i64 q, .int .i64 r, .int .i64 s]) (by simp [results, Tryz.results45, go_sem, cr0, cr1, cr2, cr3]) rfl ⟨_, _, _, _, rfl, (((aI.set (yy HSX) hbr _).set hbr _).set hbr _).set hbr _, aq (aq (aq (aq (yy HG) (Nat.le_refl _) _) (Nat.le_refl _) _) (Nat.le_refl _) _) (Nat.le_refl _) _⟩
    ·have hne1 : w.heap.size ≠ w7.heap.size := by have := hlt8; omega
     have hne2 : w7.heap.size ≠ w.heap.size := Ne.symm hne1
     have HC : Hid (w8.cell? ⟨w7.heap.size, 0, none⟩ = some (.int .i64 p) ∧ w8.cell? ⟨w7.heap.size, 1, none⟩ = some (.int .i64 q) ∧ w8.cell? ⟨w7.heap.size, 2, none⟩ = some (.int .i64 r)) := yz ⟨cx0, cx1, cx2⟩
     clear cx0 cx1 cx2 cx3 cx4 cr0 cr1 cr2 cr3 fr0 fr1 fr2 fr3
     go_wp2_with fail
     have cN : Hid (Calls Tryz.prog 36 #[.pointer (some ⟨b, 0, none⟩), .int .i64 4] w8.drew fun e w' => ∃ z : Int, e = .returned (.int .i64 z) ∧ bX w' w7.heap.size p q r s 0 ∧ aG w' w.heap.size 0 0 0 0 ∧ dx w' w.heap.size ∧ Hid (aI b w') ∧ Hid (w.grownBy w' (some b))) := yz ((aT b 4 _ (yy HS8).drewT (by omega)).mono fun e w' ⟨z, he, _, _, _, hSn, hgn⟩ => ⟨z, he, (show bX w8.drew w7.heap.size p q r s 0 from yy Vx).grown hgn (by omega), (show aG w8.drew w.heap.size 0 0 0 0 from yy Vr).grown hgn (by omega), (show dx w8.drew w.heap.size from yy Fr).grown (yy Vr).lt hgn (by omega), yz hSn, yz (al (fH (yy HG)) hgn)⟩)
     go_region_held (fun w' => w'.cell? ⟨w7.heap.size, 0, none⟩ = some (.int .i64 p) ∧ w'.cell? ⟨w7.heap.size, 1, none⟩ = some (.int .i64 q) ∧ w'.cell? ⟨w7.heap.size, 2, none⟩ = some (.int .i64 r)) (first | (with_reducible exact (yy HC)) | exact (yy HC) | (with_reducible exact ⟨q0, q1, q2⟩) | simp [go_sem, q0, q1, q2]) ((go_at_call 36; refine (yy cN).mono ?_; rintro e wn ⟨zz, rfl, ⟨q0, q1, q2, q3, q4⟩, ⟨cr0, cr1, cr2, cr3⟩, ⟨fr0, fr1, fr2, fr3⟩, HSX, HGX⟩))
     all_goals go_wp2
     all_goals exact bodyPost_ret (v := .agg #[.int .i64 p, .int .i64 q, .int .i64 r, .int .i64 (IntKind.i64.wrap (6 - IntKind.i64.wrap (2 * zz)))]) (by simp [results, Tryz.results45, go_sem, cr0, cr1, cr2, cr3]) rfl ⟨_, _, _, _, rfl, (((aI.set (yy HSX) hbr _).set hbr _).set hbr _).set hbr _, aq (aq (aq (aq (yy HGX) (Nat.le_refl _) _) (Nat.le_refl _) _) (Nat.le_refl _) _) (Nat.le_refl _) _⟩
   ·have hkb : (k != 0) = true := by simpa using hk
    have hkc : (k == 0) = false := by simpa using hk
    have hbr : b < w.heap.size := hlt
    obtain ⟨cr0, cr1, cr2, cr3⟩ := yy Vr7
    obtain ⟨fr0, fr1, fr2, fr3⟩ := yy Fr7
    clear Vx
    go_wp2_with fail
    obtain ⟨u0, u1, u2, u3⟩ := (fW (yy Vr7) 1 0 0 0).alloc (.cells #[.int .i64 p, .int .i64 q, .int .i64 r, .int .i64 s, .int .i64 k] 123)
    exact bodyPost_ret (v := .agg #[.int .i64 1, .int .i64 0, .int .i64 0, .int .i64 0]) (by simp [results, Tryz.results45, go_sem, u0, u1, u2, u3]) rfl ⟨_, _, _, _, rfl, ((((aI.set (yy HS7w) hbr _).set hbr _).set hbr _).set hbr _).allocs _, al (aq (aq (aq (aq (yy HG7) (Nat.le_refl _) _) (Nat.le_refl _) _) (Nat.le_refl _) _) (Nat.le_refl _) _) (World.grownBy_alloc _ _ (some b))⟩
  ·go_wp2_with fail
   refine (aT b 11 _ (yy HS2) (by omega)).mono ?_
   rintro e w3 ⟨z0, rfl, _, _, _, hS, hg⟩
   have HS3 := yz hS
   replace Fr := yz ((yy Fr).grown (yy Vr).lt hg (by omega))
   replace Vr := yz ((yy Vr).grown hg (by omega))
   replace HG := yz (al (yy HG) hg)
   clear hS hg HS2
   go_wp2_with fail
   refine (aT b 11 _ (yy HS3) (by omega)).mono ?_
   rintro e w4 ⟨z1, rfl, _, _, _, hS, hg⟩
   have HS4 := yz hS
   replace Fr := yz ((yy Fr).grown (yy Vr).lt hg (by omega))
   replace Vr := yz ((yy Vr).grown hg (by omega))
   replace HG := yz (al (yy HG) hg)
   clear hS hg HS3
   go_wp2_with fail
   refine (aT b 11 _ (yy HS4) (by omega)).mono ?_
   rintro e w5 ⟨z2, rfl, _, _, _, hS, hg⟩
   have HS5 := yz hS
   replace Fr := yz ((yy Fr).grown (yy Vr).lt hg (by omega))
   replace Vr := yz ((yy Vr).grown hg (by omega))
   replace HG := yz (al (yy HG) hg)
   clear hS hg HS4
   go_wp2_with fail
   refine (aT b 11 _ (yy HS5) (by omega)).mono ?_
   rintro e w6 ⟨z3, rfl, _, _, _, hS, hg⟩
   have HS6 := yz hS
   replace Fr := yz ((yy Fr).grown (yy Vr).lt hg (by omega))
   replace Vr := yz ((yy Vr).grown hg (by omega))
   replace HG := yz (al (yy HG) hg)
   clear hS hg HS5
   go_wp2_with fail
   refine (eG _ _ _ _ _).mono ?_
   rintro e w7 ⟨p, q, r, s, k, rfl, hx⟩
   have Vr7 := yz ((yy Vr).kept (yy Vr).lt hx)
   have Fr7 := yz ((yy Fr).kept (yy Vr).lt hx)
   have HS7w := yz ((yy HS6).below hx)
   have HG7 := yz (al (yy HG) (bV hx (some b)))
   have HLT : w.heap.size < w7.heap.size := ((yy Vr).kept (yy Vr).lt hx).lt
   replace Fr := yz (((yy Fr).kept (yy Vr).lt hx).kept ((yy Vr).kept (yy Vr).lt hx).lt (am w7 (.cells #[.int .i64 p, .int .i64 q, .int .i64 r, .int .i64 s, .int .i64 k] 123)))
   replace Vr := yz (((yy Vr).kept (yy Vr).lt hx).alloc (.cells #[.int .i64 p, .int .i64 q, .int .i64 r, .int .i64 s, .int .i64 k] 123))
   have Vx := yz (ea w7 p q r s k 123)
   have HS7 := yz ((((yy HS6).below hx)).allocs (.cells #[.int .i64 p, .int .i64 q, .int .i64 r, .int .i64 s, .int .i64 k] 123))
   replace HG := yz (al (al (yy HG) (bV hx (some b))) (World.grownBy_alloc w7 (.cells #[.int .i64 p, .int .i64 q, .int .i64 r, .int .i64 s, .int .i64 k] 123) (some b)))
   have hbx : b < w7.heap.size := Nat.lt_of_lt_of_le (yy HS6).lt hx.size
   clear hx HS6
   have vx := yy Vx
   obtain ⟨cx0, cx1, cx2, cx3, cx4⟩ := vx
   by_cases hk : k = 0
   ·subst hk
    go_wp2_with fail
    clear cx0 cx1 cx2 cx3 cx4
    refine (bO b 20 _ (yy HS7) (by omega)).mono ?_
    rintro e w8 ⟨y3, rfl, hS, hg⟩
    replace Vx := yz ((yy Vx).grown hg (by omega))
    have HS8 := yz hS
    replace Fr := yz ((yy Fr).grown (yy Vr).lt hg (by omega))
    replace Vr := yz ((yy Vr).grown hg (by omega))
    replace HG := yz (al (yy HG) hg)
    clear hS hg HS7
    have hlt8 : w.heap.size < w7.heap.size := HLT
    have vx := yy Vx
    obtain ⟨cx0, cx1, cx2, cx3, cx4⟩ := vx
    obtain ⟨cr0, cr1, cr2, cr3⟩ := yy Vr
    obtain ⟨fr0, fr1, fr2, fr3⟩ := yy Fr
    have hbr : b < w.heap.size := hlt
    cases y3
    ·have HSX := HS8
     go_wp2_with fail
     exact bodyPost_ret (v := .agg #[.int .i64 p, .int .i64 q, .int .i64 r, .int .i64 s]) (by simp [results, Tryz.results45, go_sem, cr0, cr1, cr2, cr3]) rfl ⟨_, _, _, _, rfl, (((aI.set (yy HSX) hbr _).set hbr _).set hbr _).set hbr _, aq (aq (aq (aq (yy HG) (Nat.le_refl _) _) (Nat.le_refl _) _) (Nat.le_refl _) _) (Nat.le_refl _) _⟩
    ·have hne1 : w.heap.size ≠ w7.heap.size := by have := hlt8; omega
     have hne2 : w7.heap.size ≠ w.heap.size := Ne.symm hne1
     have HC : Hid (w8.cell? ⟨w7.heap.size, 0, none⟩ = some (.int .i64 p) ∧ w8.cell? ⟨w7.heap.size, 1, none⟩ = some (.int .i64 q) ∧ w8.cell? ⟨w7.heap.size, 2, none⟩ = some (.int .i64 r)) := yz ⟨cx0, cx1, cx2⟩
     clear cx0 cx1 cx2 cx3 cx4 cr0 cr1 cr2 cr3 fr0 fr1 fr2 fr3
     go_wp2_with fail
     have cN : Hid (Calls Tryz.prog 36 #[.pointer (some ⟨b, 0, none⟩), .int .i64 4] w8.drew fun e w' => ∃ z : Int, e = .returned (.int .i64 z) ∧ bX w' w7.heap.size p q r s 0 ∧ aG w' w.heap.size 0 0 0 0 ∧ dx w' w.heap.size ∧ Hid (aI b w') ∧ Hid (w.grownBy w' (some b))) := yz ((aT b 4 _ (yy HS8).drewT (by omega)).mono fun e w' ⟨z, he, _, _, _, hSn, hgn⟩ => ⟨z, he, (show bX w8.drew w7.heap.size p q r s 0 from yy Vx).grown hgn (by omega), (show aG w8.drew w.heap.size 0 0 0 0 from yy Vr).grown hgn (by omega), (show dx w8.drew w.heap.size from yy Fr).grown (yy Vr).lt hgn (by omega), yz hSn, yz (al (fH (yy HG)) hgn)⟩)
     go_region_held (fun w' => w'.cell? ⟨w7.heap.size, 0, none⟩ = some (.int .i64 p) ∧ w'.cell? ⟨w7.heap.size, 1, none⟩ = some (.int .i64 q) ∧ w'.cell? ⟨w7.heap.size, 2, none⟩ = some (.int .i64 r)) (first | (with_reducible exact (yy HC)) | exact (yy HC) | (with_reducible exact ⟨q0, q1, q2⟩) | simp [go_sem, q0, q1, q2]) ((go_at_call 36; refine (yy cN).mono ?_; rintro e wn ⟨zz, rfl, ⟨q0, q1, q2, q3, q4⟩, ⟨cr0, cr1, cr2, cr3⟩, ⟨fr0, fr1, fr2, fr3⟩, HSX, HGX⟩))
     all_goals go_wp2
     all_goals exact bodyPost_ret (v := .agg #[.int .i64 p, .int .i64 q, .int .i64 r, .int .i64 (IntKind.i64.wrap (6 - IntKind.i64.wrap (2 * zz)))]) (by simp [results, Tryz.results45, go_sem, cr0, cr1, cr2, cr3]) rfl ⟨_, _, _, _, rfl, (((aI.set (yy HSX) hbr _).set hbr _).set hbr _).set hbr _, aq (aq (aq (aq (yy HGX) (Nat.le_refl _) _) (Nat.le_refl _) _) (Nat.le_refl _) _) (Nat.le_refl _) _⟩
   ·have hkb : (k != 0) = true := by simpa using hk
    have hkc : (k == 0) = false := by simpa using hk
    have hbr : b < w.heap.size := hlt
    obtain ⟨cr0, cr1, cr2, cr3⟩ := yy Vr7
    obtain ⟨fr0, fr1, fr2, fr3⟩ := yy Fr7
    clear Vx
    go_wp2_with fail
    obtain ⟨u0, u1, u2, u3⟩ := (fW (yy Vr7) 1 0 0 0).alloc (.cells #[.int .i64 p, .int .i64 q, .int .i64 r, .int .i64 s, .int .i64 k] 123)
    exact bodyPost_ret (v := .agg #[.int .i64 1, .int .i64 0, .int .i64 0, .int .i64 0]) (by simp [results, Tryz.results45, go_sem, u0, u1, u2, u3]) rfl ⟨_, _, _, _, rfl, ((((aI.set (yy HS7w) hbr _).set hbr _).set hbr _).set hbr _).allocs _, al (aq (aq (aq (aq (yy HG7) (Nat.le_refl _) _) (Nat.le_refl _) _) (Nat.le_refl _) _) (Nat.le_refl _) _) (World.grownBy_alloc _ _ (some b))⟩
 ·go_wp2_with fail
  refine (bO b 10 _ (yy HS1) (by omega)).mono ?_
  rintro e w2 ⟨y2, rfl, hS, hg⟩
  have HS2 := yz hS
  replace Fr := yz ((yy Fr).grown (yy Vr).lt hg (by omega))
  replace Vr := yz ((yy Vr).grown hg (by omega))
  replace HG := yz (al (yy HG) hg)
  clear hS hg HS1
  cases y2
  ·go_wp2_with fail
   refine (aT b 5 _ (yy HS2) (by omega)).mono ?_
   rintro e w3 ⟨z0, rfl, _, _, _, hS, hg⟩
   have HS3 := yz hS
   replace Fr := yz ((yy Fr).grown (yy Vr).lt hg (by omega))
   replace Vr := yz ((yy Vr).grown hg (by omega))
   replace HG := yz (al (yy HG) hg)
   clear hS hg HS2
   go_wp2_with fail
   refine (aT b 5 _ (yy HS3) (by omega)).mono ?_
   rintro e w4 ⟨z1, rfl, _, _, _, hS, hg⟩
   have HS4 := yz hS
   replace Fr := yz ((yy Fr).grown (yy Vr).lt hg (by omega))
   replace Vr := yz ((yy Vr).grown hg (by omega))
   replace HG := yz (al (yy HG) hg)
   clear hS hg HS3
   go_wp2_with fail
   refine (aT b 5 _ (yy HS4) (by omega)).mono ?_
   rintro e w5 ⟨z2, rfl, _, _, _, hS, hg⟩
   have HS5 := yz hS
   replace Fr := yz ((yy Fr).grown (yy Vr).lt hg (by omega))
   replace Vr := yz ((yy Vr).grown hg (by omega))
   replace HG := yz (al (yy HG) hg)
   clear hS hg HS4
   go_wp2_with fail
   refine (aT b 5 _ (yy HS5) (by omega)).mono ?_
   rintro e w6 ⟨z3, rfl, _, _, _, hS, hg⟩
   have HS6 := yz hS
   replace Fr := yz ((yy Fr).grown (yy Vr).lt hg (by omega))
   replace Vr := yz ((yy Vr).grown hg (by omega))
   replace HG := yz (al (yy HG) hg)
   clear hS hg HS5
   go_wp2_with fail
   refine (eG _ _ _ _ _).mono ?_
   rintro e w7 ⟨p, q, r, s, k, rfl, hx⟩
   have Vr7 := yz ((yy Vr).kept (yy Vr).lt hx)
   have Fr7 := yz ((yy Fr).kept (yy Vr).lt hx)
   have HS7w := yz ((yy HS6).below hx)
   have HG7 := yz (al (yy HG) (bV hx (some b)))
   have HLT : w.heap.size < w7.heap.size := ((yy Vr).kept (yy Vr).lt hx).lt
   replace Fr := yz (((yy Fr).kept (yy Vr).lt hx).kept ((yy Vr).kept (yy Vr).lt hx).lt (am w7 (.cells #[.int .i64 p, .int .i64 q, .int .i64 r, .int .i64 s, .int .i64 k] 123)))
   replace Vr := yz (((yy Vr).kept (yy Vr).lt hx).alloc (.cells #[.int .i64 p, .int .i64 q, .int .i64 r, .int .i64 s, .int .i64 k] 123))
   have Vx := yz (ea w7 p q r s k 123)
   have HS7 := yz ((((yy HS6).below hx)).allocs (.cells #[.int .i64 p, .int .i64 q, .int .i64 r, .int .i64 s, .int .i64 k] 123))
   replace HG := yz (al (al (yy HG) (bV hx (some b))) (World.grownBy_alloc w7 (.cells #[.int .i64 p, .int .i64 q, .int .i64 r, .int .i64 s, .int .i64 k] 123) (some b)))
   have hbx : b < w7.heap.size := Nat.lt_of_lt_of_le (yy HS6).lt hx.size
   clear hx HS6
   have vx := yy Vx
   obtain ⟨cx0, cx1, cx2, cx3, cx4⟩ := vx
   by_cases hk : k = 0
   ·subst hk
    go_wp2_with fail
    clear cx0 cx1 cx2 cx3 cx4
    refine (bO b 20 _ (yy HS7) (by omega)).mono ?_
    rintro e w8 ⟨y3, rfl, hS, hg⟩
    replace Vx := yz ((yy Vx).grown hg (by omega))
    have HS8 := yz hS
    replace Fr := yz ((yy Fr).grown (yy Vr).lt hg (by omega))
    replace Vr := yz ((yy Vr).grown hg (by omega))
    replace HG := yz (al (yy HG) hg)
    clear hS hg HS7
    have hlt8 : w.heap.size < w7.heap.size := HLT
    have vx := yy Vx
    obtain ⟨cx0, cx1, cx2, cx3, cx4⟩ := vx
    obtain ⟨cr0, cr1, cr2, cr3⟩ := yy Vr
    obtain ⟨fr0, fr1, fr2, fr3⟩ := yy Fr
    have hbr : b < w.heap.size := hlt
    cases y3
    ·have HSX := HS8
     go_wp2_with fail
     exact bodyPost_ret (v := .agg #[.int .i64 p, .int .i64 q, .int .i64 r, .int .i64 s]) (by simp [results, Tryz.results45, go_sem, cr0, cr1, cr2, cr3]) rfl ⟨_, _, _, _, rfl, (((aI.set (yy HSX) hbr _).set hbr _).set hbr _).set hbr _, aq (aq (aq (aq (yy HG) (Nat.le_refl _) _) (Nat.le_refl _) _) (Nat.le_refl _) _) (Nat.le_refl _) _⟩
    ·have hne1 : w.heap.size ≠ w7.heap.size := by have := hlt8; omega
     have hne2 : w7.heap.size ≠ w.heap.size := Ne.symm hne1
     have HC : Hid (w8.cell? ⟨w7.heap.size, 0, none⟩ = some (.int .i64 p) ∧ w8.cell? ⟨w7.heap.size, 1, none⟩ = some (.int .i64 q) ∧ w8.cell? ⟨w7.heap.size, 2, none⟩ = some (.int .i64 r)) := yz ⟨cx0, cx1, cx2⟩
     clear cx0 cx1 cx2 cx3 cx4 cr0 cr1 cr2 cr3 fr0 fr1 fr2 fr3
     go_wp2_with fail
     have cN : Hid (Calls Tryz.prog 36 #[.pointer (some ⟨b, 0, none⟩), .int .i64 4] w8.drew fun e w' => ∃ z : Int, e = .returned (.int .i64 z) ∧ bX w' w7.heap.size p q r s 0 ∧ aG w' w.heap.size 0 0 0 0 ∧ dx w' w.heap.size ∧ Hid (aI b w') ∧ Hid (w.grownBy w' (some b))) := yz ((aT b 4 _ (yy HS8).drewT (by omega)).mono fun e w' ⟨z, he, _, _, _, hSn, hgn⟩ => ⟨z, he, (show bX w8.drew w7.heap.size p q r s 0 from yy Vx).grown hgn (by omega), (show aG w8.drew w.heap.size 0 0 0 0 from yy Vr).grown hgn (by omega), (show dx w8.drew w.heap.size from yy Fr).grown (yy Vr).lt hgn (by omega), yz hSn, yz (al (fH (yy HG)) hgn)⟩)
     go_region_held (fun w' => w'.cell? ⟨w7.heap.size, 0, none⟩ = some (.int .i64 p) ∧ w'.cell? ⟨w7.heap.size, 1, none⟩ = some (.int .i64 q) ∧ w'.cell? ⟨w7.heap.size, 2, none⟩ = some (.int .i64 r)) (first | (with_reducible exact (yy HC)) | exact (yy HC) | (with_reducible exact ⟨q0, q1, q2⟩) | simp [go_sem, q0, q1, q2]) ((go_at_call 36; refine (yy cN).mono ?_; rintro e wn ⟨zz, rfl, ⟨q0, q1, q2, q3, q4⟩, ⟨cr0, cr1, cr2, cr3⟩, ⟨fr0, fr1, fr2, fr3⟩, HSX, HGX⟩))
     all_goals go_wp2
     all_goals exact bodyPost_ret (v := .agg #[.int .i64 p, .int .i64 q, .int .i64 r, .int .i64 (IntKind.i64.wrap (6 - IntKind.i64.wrap (2 * zz)))]) (by simp [results, Tryz.results45, go_sem, cr0, cr1, cr2, cr3]) rfl ⟨_, _, _, _, rfl, (((aI.set (yy HSX) hbr _).set hbr _).set hbr _).set hbr _, aq (aq (aq (aq (yy HGX) (Nat.le_refl _) _) (Nat.le_refl _) _) (Nat.le_refl _) _) (Nat.le_refl _) _⟩
   ·have hkb : (k != 0) = true := by simpa using hk
    have hkc : (k == 0) = false := by simpa using hk
    have hbr : b < w.heap.size := hlt
    obtain ⟨cr0, cr1, cr2, cr3⟩ := yy Vr7
    obtain ⟨fr0, fr1, fr2, fr3⟩ := yy Fr7
    clear Vx
    go_wp2_with fail
    obtain ⟨u0, u1, u2, u3⟩ := (fW (yy Vr7) 1 0 0 0).alloc (.cells #[.int .i64 p, .int .i64 q, .int .i64 r, .int .i64 s, .int .i64 k] 123)
    exact bodyPost_ret (v := .agg #[.int .i64 1, .int .i64 0, .int .i64 0, .int .i64 0]) (by simp [results, Tryz.results45, go_sem, u0, u1, u2, u3]) rfl ⟨_, _, _, _, rfl, ((((aI.set (yy HS7w) hbr _).set hbr _).set hbr _).set hbr _).allocs _, al (aq (aq (aq (aq (yy HG7) (Nat.le_refl _) _) (Nat.le_refl _) _) (Nat.le_refl _) _) (Nat.le_refl _) _) (World.grownBy_alloc _ _ (some b))⟩
  ·go_wp2_with fail
   refine (aT b 11 _ (yy HS2) (by omega)).mono ?_
   rintro e w3 ⟨z0, rfl, _, _, _, hS, hg⟩
   have HS3 := yz hS
   replace Fr := yz ((yy Fr).grown (yy Vr).lt hg (by omega))
   replace Vr := yz ((yy Vr).grown hg (by omega))
   replace HG := yz (al (yy HG) hg)
   clear hS hg HS2
   go_wp2_with fail
   refine (aT b 11 _ (yy HS3) (by omega)).mono ?_
   rintro e w4 ⟨z1, rfl, _, _, _, hS, hg⟩
   have HS4 := yz hS
   replace Fr := yz ((yy Fr).grown (yy Vr).lt hg (by omega))
   replace Vr := yz ((yy Vr).grown hg (by omega))
   replace HG := yz (al (yy HG) hg)
   clear hS hg HS3
   go_wp2_with fail
   refine (aT b 11 _ (yy HS4) (by omega)).mono ?_
   rintro e w5 ⟨z2, rfl, _, _, _, hS, hg⟩
   have HS5 := yz hS
   replace Fr := yz ((yy Fr).grown (yy Vr).lt hg (by omega))
   replace Vr := yz ((yy Vr).grown hg (by omega))
   replace HG := yz (al (yy HG) hg)
   clear hS hg HS4
   go_wp2_with fail
   refine (aT b 11 _ (yy HS5) (by omega)).mono ?_
   rintro e w6 ⟨z3, rfl, _, _, _, hS, hg⟩
   have HS6 := yz hS
   replace Fr := yz ((yy Fr).grown (yy Vr).lt hg (by omega))
   replace Vr := yz ((yy Vr).grown hg (by omega))
   replace HG := yz (al (yy HG) hg)
   clear hS hg HS5
   go_wp2_with fail
   refine (eG _ _ _ _ _).mono ?_
   rintro e w7 ⟨p, q, r, s, k, rfl, hx⟩
   have Vr7 := yz ((yy Vr).kept (yy Vr).lt hx)
   have Fr7 := yz ((yy Fr).kept (yy Vr).lt hx)
   have HS7w := yz ((yy HS6).below hx)
   have HG7 := yz (al (yy HG) (bV hx (some b)))
   have HLT : w.heap.size < w7.heap.size := ((yy Vr).kept (yy Vr).lt hx).lt
   replace Fr := yz (((yy Fr).kept (yy Vr).lt hx).kept ((yy Vr).kept (yy Vr).lt hx).lt (am w7 (.cells #[.int .i64 p, .int .i64 q, .int .i64 r, .int .i64 s, .int .i64 k] 123)))
   replace Vr := yz (((yy Vr).kept (yy Vr).lt hx).alloc (.cells #[.int .i64 p, .int .i64 q, .int .i64 r, .int .i64 s, .int .i64 k] 123))
   have Vx := yz (ea w7 p q r s k 123)
   have HS7 := yz ((((yy HS6).below hx)).allocs (.cells #[.int .i64 p, .int .i64 q, .int .i64 r, .int .i64 s, .int .i64 k] 123))
   replace HG := yz (al (al (yy HG) (bV hx (some b))) (World.grownBy_alloc w7 (.cells #[.int .i64 p, .int .i64 q, .int .i64 r, .int .i64 s, .int .i64 k] 123) (some b)))
   have hbx : b < w7.heap.size := Nat.lt_of_lt_of_le (yy HS6).lt hx.size
   clear hx HS6
   have vx := yy Vx
   obtain ⟨cx0, cx1, cx2, cx3, cx4⟩ := vx
   by_cases hk : k = 0
   ·subst hk
    go_wp2_with fail
    clear cx0 cx1 cx2 cx3 cx4
    refine (bO b 20 _ (yy HS7) (by omega)).mono ?_
    rintro e w8 ⟨y3, rfl, hS, hg⟩
    replace Vx := yz ((yy Vx).grown hg (by omega))
    have HS8 := yz hS
    replace Fr := yz ((yy Fr).grown (yy Vr).lt hg (by omega))
    replace Vr := yz ((yy Vr).grown hg (by omega))
    replace HG := yz (al (yy HG) hg)
    clear hS hg HS7
    have hlt8 : w.heap.size < w7.heap.size := HLT
    have vx := yy Vx
    obtain ⟨cx0, cx1, cx2, cx3, cx4⟩ := vx
    obtain ⟨cr0, cr1, cr2, cr3⟩ := yy Vr
    obtain ⟨fr0, fr1, fr2, fr3⟩ := yy Fr
    have hbr : b < w.heap.size := hlt
    cases y3
    ·have HSX := HS8
     go_wp2_with fail
     exact bodyPost_ret (v := .agg #[.int .i64 p, .int .i64 q, .int .i64 r, .int .i64 s]) (by simp [results, Tryz.results45, go_sem, cr0, cr1, cr2, cr3]) rfl ⟨_, _, _, _, rfl, (((aI.set (yy HSX) hbr _).set hbr _).set hbr _).set hbr _, aq (aq (aq (aq (yy HG) (Nat.le_refl _) _) (Nat.le_refl _) _) (Nat.le_refl _) _) (Nat.le_refl _) _⟩
    ·have hne1 : w.heap.size ≠ w7.heap.size := by have := hlt8; omega
     have hne2 : w7.heap.size ≠ w.heap.size := Ne.symm hne1
     have HC : Hid (w8.cell? ⟨w7.heap.size, 0, none⟩ = some (.int .i64 p) ∧ w8.cell? ⟨w7.heap.size, 1, none⟩ = some (.int .i64 q) ∧ w8.cell? ⟨w7.heap.size, 2, none⟩ = some (.int .i64 r)) := yz ⟨cx0, cx1, cx2⟩
     clear cx0 cx1 cx2 cx3 cx4 cr0 cr1 cr2 cr3 fr0 fr1 fr2 fr3
     go_wp2_with fail
     have cN : Hid (Calls Tryz.prog 36 #[.pointer (some ⟨b, 0, none⟩), .int .i64 4] w8.drew fun e w' => ∃ z : Int, e = .returned (.int .i64 z) ∧ bX w' w7.heap.size p q r s 0 ∧ aG w' w.heap.size 0 0 0 0 ∧ dx w' w.heap.size ∧ Hid (aI b w') ∧ Hid (w.grownBy w' (some b))) := yz ((aT b 4 _ (yy HS8).drewT (by omega)).mono fun e w' ⟨z, he, _, _, _, hSn, hgn⟩ => ⟨z, he, (show bX w8.drew w7.heap.size p q r s 0 from yy Vx).grown hgn (by omega), (show aG w8.drew w.heap.size 0 0 0 0 from yy Vr).grown hgn (by omega), (show dx w8.drew w.heap.size from yy Fr).grown (yy Vr).lt hgn (by omega), yz hSn, yz (al (fH (yy HG)) hgn)⟩)
     go_region_held (fun w' => w'.cell? ⟨w7.heap.size, 0, none⟩ = some (.int .i64 p) ∧ w'.cell? ⟨w7.heap.size, 1, none⟩ = some (.int .i64 q) ∧ w'.cell? ⟨w7.heap.size, 2, none⟩ = some (.int .i64 r)) (first | (with_reducible exact (yy HC)) | exact (yy HC) | (with_reducible exact ⟨q0, q1, q2⟩) | simp [go_sem, q0, q1, q2]) ((go_at_call 36; refine (yy cN).mono ?_; rintro e wn ⟨zz, rfl, ⟨q0, q1, q2, q3, q4⟩, ⟨cr0, cr1, cr2, cr3⟩, ⟨fr0, fr1, fr2, fr3⟩, HSX, HGX⟩))
     all_goals go_wp2
     all_goals exact bodyPost_ret (v := .agg #[.int .i64 p, .int .i64 q, .int .i64 r, .int .i64 (IntKind.i64.wrap (6 - IntKind.i64.wrap (2 * zz)))]) (by simp [results, Tryz.results45, go_sem, cr0, cr1, cr2, cr3]) rfl ⟨_, _, _, _, rfl, (((aI.set (yy HSX) hbr _).set hbr _).set hbr _).set hbr _, aq (aq (aq (aq (yy HGX) (Nat.le_refl _) _) (Nat.le_refl _) _) (Nat.le_refl _) _) (Nat.le_refl _) _⟩
   ·have hkb : (k != 0) = true := by simpa using hk
    have hkc : (k == 0) = false := by simpa using hk
    have hbr : b < w.heap.size := hlt
    obtain ⟨cr0, cr1, cr2, cr3⟩ := yy Vr7
    obtain ⟨fr0, fr1, fr2, fr3⟩ := yy Fr7
    clear Vx
    go_wp2_with fail
    obtain ⟨u0, u1, u2, u3⟩ := (fW (yy Vr7) 1 0 0 0).alloc (.cells #[.int .i64 p, .int .i64 q, .int .i64 r, .int .i64 s, .int .i64 k] 123)
    exact bodyPost_ret (v := .agg #[.int .i64 1, .int .i64 0, .int .i64 0, .int .i64 0]) (by simp [results, Tryz.results45, go_sem, u0, u1, u2, u3]) rfl ⟨_, _, _, _, rfl, ((((aI.set (yy HS7w) hbr _).set hbr _).set hbr _).set hbr _).allocs _, al (aq (aq (aq (aq (yy HG7) (Nat.le_refl _) _) (Nat.le_refl _) _) (Nat.le_refl _) _) (Nat.le_refl _) _) (World.grownBy_alloc _ _ (some b))⟩
end
section
open Go.RowKit Go.Sort
theorem TkO.far {w : World} {b : Nat} {v : Value} {lim mode A B C D coast fr code : Int} (h : TkO w b v lim mode A B C D coast fr code) {b' : Nat} (hne : b ≠ b') (o : Nat) (x : Value) : TkO (w.setCell ⟨b', o, none⟩ x) b v lim mode A B C D coast fr code := ⟨h.1.far hne o x, by rw [World.cell?_setCell_far _ _ _ _ (Ne.symm hne)]; exact h.2⟩
theorem TkO.lt {w : World} {b : Nat} {v : Value} {lim mode A B C D coast fr code : Int} (h : TkO w b v lim mode A B C D coast fr code) : b < w.heap.size := h.1.lt
end
section
open Go.RowKit
end
section
end
section
open Go.RowKit Go.Sort
theorem tr (w : World) (k : UInt8) : (convert 22 9 (.slice (some ⟨w.heap.size, 0, none⟩) 1 1)).run Tryz.prog (w.alloc (.cells #[.int .u8 (k.toNat : Int)] 5)) = .ok (.string ⟨#[k]⟩) (w.alloc (.cells #[.int .u8 (k.toNat : Int)] 5)) :=
 fF w 5 #[.int .u8 (k.toNat : Int)] ⟨#[k]⟩ (by simp [Lib.byteCells]) 1
end
section
open Go.RowKit
theorem hF (c : UInt8) : (ByteArray.mk #[c]).size = 1 := rfl
theorem dJ (w : World) (n : Nat) (row : Option Nat) : w.grownBy (w.drewN n) row := ⟨rfl, rfl, rfl, Nat.le_refl _, fun _ _ _ => rfl⟩
theorem aI.drewNs {b : Nat} {w : World} (h : aI b w) (n : Nat) : aI b (w.drewN n) := h.kept (dJ w n none) (fun _ e => by cases e)
theorem kF (b : Nat) (t : ByteArray) (w : World) (hS : aI b w) (ht : t.size ≤ 10000) :
  Calls Tryz.prog 37 #[.pointer (some ⟨b, 0, none⟩), .string t] w fun e w' => ∃ r : ByteArray, e = .returned (.string r) ∧ r.size ≤ 20000 ∧ aI b w' ∧ w.grownBy w' (some b) := by
 have HS := yz hS
 clear hS
 go_enter Tryz.func37, Tryz.ntmps37
 go_wp2_with fail
 refine (aT b _ _ (yy HS) (by omega)).mono ?_
 rintro e w1 ⟨z, rfl, z0, z1, z2, hS1, hg⟩
 have HS1 := yz hS1
 clear hS1 HS
 go_wp2_with fail
 refine (aT b 17 _ (yy HS1) (by omega)).mono ?_
 rintro e w2 ⟨y, rfl, y0, y1, _, hS2, hg2⟩
 have hy17 : y < 17 := y1 (by omega)
 obtain ⟨j, rfl⟩ : ∃ j : Nat, y = (j : Int) := ⟨y.toNat, by omega⟩
 have hj : j < 17 := by omega
 have HS2 := yz hS2
 have hg' := al hg hg2
 clear hS2 HS1 y1 hg hg2
 go_wp2_with fail
 rw [tr]
 generalize (ByteArray.mk #[32, 10, 48, 97, 45, 110, 44, 58, 93, 255, 40, 120, 126, 49, 128, 225, 59])[j]'_ = c
 obtain ⟨k, rfl⟩ : ∃ k : Nat, z = (k : Int) := ⟨z.toNat, by omega⟩
 have hk : k ≤ t.size := by
  by_cases h1 : (t.size : Int) + 1 ≤ 1
  ·have := z2 h1; omega
  ·have := z1 (by omega); omega
 have hS3 := (yy HS2).allocs (.cells #[.int .u8 (c.toNat : Int)] 5)
 have hg3 := nc hg' (.cells #[.int .u8 (c.toNat : Int)] 5)
 have HS3 := yz hS3
 have HG3 := yz hg3
 clear hS3 HS2 hg' hg3 z1 z2 z0 hj hy17 y0
 have k0 : (0 : Int) ≤ (k : Int) := by omega
 have k1 : (k : Int) ≤ (t.size : Int) := by omega
 by_cases he : k = t.size
 ·have he' : (k : Int) = (t.size : Int) := by omega
  go_wp2_with fail
  go_quiet (fail)
  go_wp2
  exact bodyPost_ret (v := .string (t ++ ⟨#[c]⟩)) (by simp [results, Tryz.results37, go_sem]) rfl ⟨_, rfl, by simp [ByteArray.size_append, ByteArray.size_extract, hF]; omega, (yy HS3).drewNs _, al (yy HG3) (dJ _ _ _)⟩
 ·have he' : ¬ (k : Int) = (t.size : Int) := by omega
  go_wp2_with fail
  refine (bO b 3 _ (yy HS3) (by omega)).mono ?_
  rintro e w4 ⟨y, rfl, hS4, hg4⟩
  have HS4 := yz hS4
  have HG4 := yz (al (yy HG3) hg4)
  clear HS3 HG3 hS4 hg4
  cases y
  ·go_wp2_with fail
   refine (bO b 2 _ (yy HS4) (by omega)).mono ?_
   rintro e w5 ⟨y, rfl, hS5, hg5⟩
   have HS5 := yz hS5
   have HG5 := yz (al (yy HG4) hg5)
   clear HS4 HG4 hS5 hg5
   have k2 : (k : Int) + 1 ≤ (t.size : Int) := by omega
   have k3 : (0 : Int) ≤ (k : Int) + 1 := by omega
   cases y
   ·go_wp2_with fail
    go_quiet (fail)
    go_wp2
    exact bodyPost_ret (v := .string (t.extract 0 k ++ ⟨#[c]⟩ ++ t.extract (k + 1) t.size)) (by simp [results, Tryz.results37, go_sem]) rfl ⟨_, rfl, by simp [ByteArray.size_append, ByteArray.size_extract, hF]; omega, (yy HS5).drewNs _, al (yy HG5) (dJ _ _ _)⟩
   ·go_wp2_with fail
    go_quiet (fail)
    go_wp2
    exact bodyPost_ret (v := .string (t.extract 0 k ++ t.extract (k + 1) t.size)) (by simp [results, Tryz.results37, go_sem]) rfl ⟨_, rfl, by simp [ByteArray.size_append, ByteArray.size_extract, hF]; omega, (yy HS5).drewNs _, al (yy HG5) (dJ _ _ _)⟩
  ·go_wp2_with fail
   go_quiet (fail)
   go_wp2
   exact bodyPost_ret (v := .string (t.extract 0 k ++ ⟨#[c]⟩ ++ t.extract k t.size)) (by simp [results, Tryz.results37, go_sem]) rfl ⟨_, rfl, by simp [ByteArray.size_append, ByteArray.size_extract, hF]; omega, (yy HS4).drewNs _, al (yy HG4) (dJ _ _ _)⟩
end
section
open Go.RowKit
theorem fa {t : ByteArray} (h : t.size ≤ 7996) : aL t = t ++ jo (dQ 0 t : Nat) := by simp [aL]; intro; omega
end
end Go.Proofs.YthoiooefclbecaaGreatDoor
