/- What the law on turns draws: a turn. -/
import Derived.Test.YtijpnnooenpjoaaDoorDraw3
import Derived.Test.YtijpnnooenpjoaaDoorTurnE
import Derived.Deep.DeepCutAuto
import Derived.Deep.RegionHeld
namespace Go.Proofs.YtijpnnooenpjoaaDoor
open Go.RowKit
set_option linter.unusedVariables false

theorem grownOf {w w' : World} (h : Below w.heap.size w w') (row : Option Nat) : w.grownBy w' row := ⟨h.os, h.tape, h.output, h.size, fun i hi _ => h.block i hi⟩
theorem SrcAt.below {b : Nat} {w w' : World} (h : SrcAt b w) (hB : Below w.heap.size w w') : SrcAt b w' := h.kept (grownOf hB none) (fun _ e => by cases e)
theorem TurnAt.grown {w w' : World} {b c : Nat} {p q r s : Int} (h : TurnAt w b p q r s) (hg : w.grownBy w' (some c)) (hne : b ≠ c) : TurnAt w' b p q r s := by
  obtain ⟨h0, h1, h2, h3⟩ := h
  have hn : ∀ i, some (⟨b, i, none⟩ : Addr).block ≠ some c := fun i e => hne (Option.some.inj e)
  exact ⟨hg.cell h0 (hn 0), hg.cell h1 (hn 1), hg.cell h2 (hn 2), hg.cell h3 (hn 3)⟩
theorem FreeT.grown {w w' : World} {b c : Nat} (h : FreeT w b) (hb : b < w.heap.size) (hg : w.grownBy w' (some c)) (hne : b ≠ c) : FreeT w' b := by
  obtain ⟨h0, h1, h2, h3⟩ := h
  have hf : ∀ i, w'.frozen? ⟨b, i, none⟩ = w.frozen? ⟨b, i, none⟩ := fun i => World.frozen?_of_block (hg.block b hb (fun e => hne (Option.some.inj e)))
  exact ⟨by rw [hf]; exact h0, by rw [hf]; exact h1, by rw [hf]; exact h2, by rw [hf]; exact h3⟩

theorem OutAt.grown {w w' : World} {b c : Nat} {p q r s k : Int} (h : OutAt w b p q r s k) (hg : w.grownBy w' (some c)) (hne : b ≠ c) : OutAt w' b p q r s k := by
  obtain ⟨h0, h1, h2, h3, h4⟩ := h
  have hn : ∀ i, some (⟨b, i, none⟩ : Addr).block ≠ some c := fun i e => hne (Option.some.inj e)
  exact ⟨hg.cell h0 (hn 0), hg.cell h1 (hn 1), hg.cell h2 (hn 2), hg.cell h3 (hn 3), hg.cell h4 (hn 4)⟩
theorem turn_set4 {w : World} {b : Nat} {p q r s : Int} (h : TurnAt w b p q r s) (x y z u : Int) : TurnAt ((((w.setCell ⟨b, 0, none⟩ (.int .i64 x)).setCell ⟨b, 1, none⟩ (.int .i64 y)).setCell ⟨b, 2, none⟩ (.int .i64 z)).setCell ⟨b, 3, none⟩ (.int .i64 u)) b x y z u := by
  obtain ⟨h0, h1, h2, h3⟩ := h
  refine ⟨?_, ?_, ?_, ?_⟩ <;> simp [go_sem, h0, h1, h2, h3]
theorem grownDrew {a w : World} {row : Option Nat} (h : a.grownBy w row) : a.grownBy w.drew row := ⟨h.os, h.tape, h.output, h.size, h.block⟩
theorem SrcAt.drewT {b : Nat} {w : World} (h : SrcAt b w) : SrcAt b w.drew := h.kept (row := none) ⟨rfl, rfl, rfl, Nat.le_refl _, fun _ _ _ => rfl⟩ (fun _ e => by cases e)
theorem specOf_some (a b c d : Int) (w : World) :
    Calls Tryd.prog 23 #[.int .i64 a, .int .i64 b, .int .i64 c, .int .i64 d] w fun e w' => ∃ p q r s k : Int, e = .returned (.agg #[.int .i64 p, .int .i64 q, .int .i64 r, .int .i64 s, .int .i64 k]) ∧ Below w.heap.size w w' :=
  (specTurnOf_any a b c d w).mono fun e w' h => ⟨_, _, _, _, _, h.1, h.2⟩

set_option maxHeartbeats 4000000 in
set_option maxRecDepth 100000 in
theorem l03Turn_any (b : Nat) (w : World) (hS : SrcAt b w) :
    Calls Tryd.prog 48 #[.pointer (some ⟨b, 0, none⟩)] w fun e w' => ∃ p q r s : Int, e = .returned (.agg #[.int .i64 p, .int .i64 q, .int .i64 r, .int .i64 s]) ∧ SrcAt b w' ∧ w.grownBy w' (some b) := by
  have hlt := hS.lt
  have HS := hide hS
  clear hS
  go_enter Tryd.func48, Tryd.ntmps48
  go_wp2_with fail
  refine (one_any b 3 _ ((unhide HS).allocs _) (by omega)).mono ?_
  rintro e w1 ⟨y, rfl, hS1, hg1⟩
  have vr := (turnAt_new w 0 0 0 0 37).grown hg1 (by omega)
  have fr := (freeT_new w 0 0 0 0 37).grown (by simp) hg1 (by omega)
  have hg := grown_trans (World.grownBy_alloc w _ (some b)) hg1
  have HS1 := hide hS1
  have Vr := hide vr
  have Fr := hide fr
  have HG := hide hg
  clear hS1 hg1 vr fr hg
  cases y
  · go_wp2_with fail
    refine (one_any b 10 _ (unhide HS1) (by omega)).mono ?_
    rintro e w2 ⟨y2, rfl, hS, hg⟩
    have HS2 := hide hS
    replace Fr := hide ((unhide Fr).grown (unhide Vr).lt hg (by omega))
    replace Vr := hide ((unhide Vr).grown hg (by omega))
    replace HG := hide (grown_trans (unhide HG) hg)
    clear hS hg HS1
    cases y2
    · go_wp2_with fail
      refine (n_any b 3 _ (unhide HS2) (by omega)).mono ?_
      rintro e w3 ⟨z0, rfl, _, _, _, hS, hg⟩
      have HS3 := hide hS
      replace Fr := hide ((unhide Fr).grown (unhide Vr).lt hg (by omega))
      replace Vr := hide ((unhide Vr).grown hg (by omega))
      replace HG := hide (grown_trans (unhide HG) hg)
      clear hS hg HS2
      go_wp2_with fail
      refine (n_any b 3 _ (unhide HS3) (by omega)).mono ?_
      rintro e w4 ⟨z1, rfl, _, _, _, hS, hg⟩
      have HS4 := hide hS
      replace Fr := hide ((unhide Fr).grown (unhide Vr).lt hg (by omega))
      replace Vr := hide ((unhide Vr).grown hg (by omega))
      replace HG := hide (grown_trans (unhide HG) hg)
      clear hS hg HS3
      go_wp2_with fail
      refine (n_any b 3 _ (unhide HS4) (by omega)).mono ?_
      rintro e w5 ⟨z2, rfl, _, _, _, hS, hg⟩
      have HS5 := hide hS
      replace Fr := hide ((unhide Fr).grown (unhide Vr).lt hg (by omega))
      replace Vr := hide ((unhide Vr).grown hg (by omega))
      replace HG := hide (grown_trans (unhide HG) hg)
      clear hS hg HS4
      go_wp2_with fail
      refine (n_any b 3 _ (unhide HS5) (by omega)).mono ?_
      rintro e w6 ⟨z3, rfl, _, _, _, hS, hg⟩
      have HS6 := hide hS
      replace Fr := hide ((unhide Fr).grown (unhide Vr).lt hg (by omega))
      replace Vr := hide ((unhide Vr).grown hg (by omega))
      replace HG := hide (grown_trans (unhide HG) hg)
      clear hS hg HS5
      go_wp2_with fail
      refine (specOf_some _ _ _ _ _).mono ?_
      rintro e w7 ⟨p, q, r, s, k, rfl, hx⟩
      have Vr7 := hide ((unhide Vr).kept (unhide Vr).lt hx)
      have Fr7 := hide ((unhide Fr).kept (unhide Vr).lt hx)
      have HS7w := hide ((unhide HS6).below hx)
      have HG7 := hide (grown_trans (unhide HG) (grownOf hx (some b)))
      have HLT : w.heap.size < w7.heap.size := ((unhide Vr).kept (unhide Vr).lt hx).lt
      replace Fr := hide (((unhide Fr).kept (unhide Vr).lt hx).kept ((unhide Vr).kept (unhide Vr).lt hx).lt (below1 w7 (.cells #[.int .i64 p, .int .i64 q, .int .i64 r, .int .i64 s, .int .i64 k] 45)))
      replace Vr := hide (((unhide Vr).kept (unhide Vr).lt hx).alloc (.cells #[.int .i64 p, .int .i64 q, .int .i64 r, .int .i64 s, .int .i64 k] 45))
      have Vx := hide (outAt_new w7 p q r s k 45)
      have HS7 := hide ((((unhide HS6).below hx)).allocs (.cells #[.int .i64 p, .int .i64 q, .int .i64 r, .int .i64 s, .int .i64 k] 45))
      replace HG := hide (grown_trans (grown_trans (unhide HG) (grownOf hx (some b))) (World.grownBy_alloc w7 (.cells #[.int .i64 p, .int .i64 q, .int .i64 r, .int .i64 s, .int .i64 k] 45) (some b)))
      have hbx : b < w7.heap.size := Nat.lt_of_lt_of_le (unhide HS6).lt hx.size
      clear hx HS6
      have vx := unhide Vx
      obtain ⟨cx0, cx1, cx2, cx3, cx4⟩ := vx
      by_cases hk : k = 0
      · subst hk
        go_wp2_with fail
        clear cx0 cx1 cx2 cx3 cx4
        refine (one_any b 20 _ (unhide HS7) (by omega)).mono ?_
        rintro e w8 ⟨y3, rfl, hS, hg⟩
        replace Vx := hide ((unhide Vx).grown hg (by omega))
        have HS8 := hide hS
        replace Fr := hide ((unhide Fr).grown (unhide Vr).lt hg (by omega))
        replace Vr := hide ((unhide Vr).grown hg (by omega))
        replace HG := hide (grown_trans (unhide HG) hg)
        clear hS hg HS7
        have hlt8 : w.heap.size < w7.heap.size := HLT
        have vx := unhide Vx
        obtain ⟨cx0, cx1, cx2, cx3, cx4⟩ := vx
        obtain ⟨cr0, cr1, cr2, cr3⟩ := unhide Vr
        obtain ⟨fr0, fr1, fr2, fr3⟩ := unhide Fr
        have hbr : b < w.heap.size := hlt
        cases y3
        · have HSX := HS8
          go_wp2_with fail
          exact bodyPost_ret (v := .agg #[.int .i64 p, .int .i64 q, .int .i64 r, .int .i64 s]) (by simp [results, Tryd.results48, go_sem, cr0, cr1, cr2, cr3]) rfl ⟨_, _, _, _, rfl, (((SrcAt.set (unhide HSX) hbr _).set hbr _).set hbr _).set hbr _, grown_set (grown_set (grown_set (grown_set (unhide HG) (Nat.le_refl _) _) (Nat.le_refl _) _) (Nat.le_refl _) _) (Nat.le_refl _) _⟩
        · have hne1 : w.heap.size ≠ w7.heap.size := by have := hlt8; omega
          have hne2 : w7.heap.size ≠ w.heap.size := Ne.symm hne1
          have HC : Hid (w8.cell? ⟨w7.heap.size, 0, none⟩ = some (.int .i64 p) ∧ w8.cell? ⟨w7.heap.size, 1, none⟩ = some (.int .i64 q) ∧ w8.cell? ⟨w7.heap.size, 2, none⟩ = some (.int .i64 r)) := hide ⟨cx0, cx1, cx2⟩
          clear cx0 cx1 cx2 cx3 cx4 cr0 cr1 cr2 cr3 fr0 fr1 fr2 fr3
          go_wp2_with fail
          have cN : Hid (Calls Tryd.prog 44 #[.pointer (some ⟨b, 0, none⟩), .int .i64 4] w8.drew fun e w' => ∃ z : Int, e = .returned (.int .i64 z) ∧ OutAt w' w7.heap.size p q r s 0 ∧ TurnAt w' w.heap.size 0 0 0 0 ∧ FreeT w' w.heap.size ∧ Hid (SrcAt b w') ∧ Hid (w.grownBy w' (some b))) := hide ((n_any b 4 _ (unhide HS8).drewT (by omega)).mono fun e w' ⟨z, he, _, _, _, hSn, hgn⟩ => ⟨z, he, (show OutAt w8.drew w7.heap.size p q r s 0 from unhide Vx).grown hgn (by omega), (show TurnAt w8.drew w.heap.size 0 0 0 0 from unhide Vr).grown hgn (by omega), (show FreeT w8.drew w.heap.size from unhide Fr).grown (unhide Vr).lt hgn (by omega), hide hSn, hide (grown_trans (grownDrew (unhide HG)) hgn)⟩)
          go_region_held (fun w' => w'.cell? ⟨w7.heap.size, 0, none⟩ = some (.int .i64 p) ∧ w'.cell? ⟨w7.heap.size, 1, none⟩ = some (.int .i64 q) ∧ w'.cell? ⟨w7.heap.size, 2, none⟩ = some (.int .i64 r)) (first | (with_reducible exact (unhide HC)) | exact (unhide HC) | (with_reducible exact ⟨q0, q1, q2⟩) | simp [go_sem, q0, q1, q2]) ((go_at_call 44; refine (unhide cN).mono ?_; rintro e wn ⟨zz, rfl, ⟨q0, q1, q2, q3, q4⟩, ⟨cr0, cr1, cr2, cr3⟩, ⟨fr0, fr1, fr2, fr3⟩, HSX, HGX⟩))
          all_goals go_wp2
          all_goals exact bodyPost_ret (v := .agg #[.int .i64 p, .int .i64 q, .int .i64 r, .int .i64 (IntKind.i64.wrap (6 - IntKind.i64.wrap (2 * zz)))]) (by simp [results, Tryd.results48, go_sem, cr0, cr1, cr2, cr3]) rfl ⟨_, _, _, _, rfl, (((SrcAt.set (unhide HSX) hbr _).set hbr _).set hbr _).set hbr _, grown_set (grown_set (grown_set (grown_set (unhide HGX) (Nat.le_refl _) _) (Nat.le_refl _) _) (Nat.le_refl _) _) (Nat.le_refl _) _⟩
      · have hkb : (k != 0) = true := by simpa using hk
        have hkc : (k == 0) = false := by simpa using hk
        have hbr : b < w.heap.size := hlt
        obtain ⟨cr0, cr1, cr2, cr3⟩ := unhide Vr7
        obtain ⟨fr0, fr1, fr2, fr3⟩ := unhide Fr7
        clear Vx
        go_wp2_with fail
        obtain ⟨u0, u1, u2, u3⟩ := (turn_set4 (unhide Vr7) 1 0 0 0).alloc (.cells #[.int .i64 p, .int .i64 q, .int .i64 r, .int .i64 s, .int .i64 k] 45)
        exact bodyPost_ret (v := .agg #[.int .i64 1, .int .i64 0, .int .i64 0, .int .i64 0]) (by simp [results, Tryd.results48, go_sem, u0, u1, u2, u3]) rfl ⟨_, _, _, _, rfl, ((((SrcAt.set (unhide HS7w) hbr _).set hbr _).set hbr _).set hbr _).allocs _, grown_trans (grown_set (grown_set (grown_set (grown_set (unhide HG7) (Nat.le_refl _) _) (Nat.le_refl _) _) (Nat.le_refl _) _) (Nat.le_refl _) _) (World.grownBy_alloc _ _ (some b))⟩
    · go_wp2_with fail
      refine (n_any b 11 _ (unhide HS2) (by omega)).mono ?_
      rintro e w3 ⟨z0, rfl, _, _, _, hS, hg⟩
      have HS3 := hide hS
      replace Fr := hide ((unhide Fr).grown (unhide Vr).lt hg (by omega))
      replace Vr := hide ((unhide Vr).grown hg (by omega))
      replace HG := hide (grown_trans (unhide HG) hg)
      clear hS hg HS2
      go_wp2_with fail
      refine (n_any b 11 _ (unhide HS3) (by omega)).mono ?_
      rintro e w4 ⟨z1, rfl, _, _, _, hS, hg⟩
      have HS4 := hide hS
      replace Fr := hide ((unhide Fr).grown (unhide Vr).lt hg (by omega))
      replace Vr := hide ((unhide Vr).grown hg (by omega))
      replace HG := hide (grown_trans (unhide HG) hg)
      clear hS hg HS3
      go_wp2_with fail
      refine (n_any b 11 _ (unhide HS4) (by omega)).mono ?_
      rintro e w5 ⟨z2, rfl, _, _, _, hS, hg⟩
      have HS5 := hide hS
      replace Fr := hide ((unhide Fr).grown (unhide Vr).lt hg (by omega))
      replace Vr := hide ((unhide Vr).grown hg (by omega))
      replace HG := hide (grown_trans (unhide HG) hg)
      clear hS hg HS4
      go_wp2_with fail
      refine (n_any b 11 _ (unhide HS5) (by omega)).mono ?_
      rintro e w6 ⟨z3, rfl, _, _, _, hS, hg⟩
      have HS6 := hide hS
      replace Fr := hide ((unhide Fr).grown (unhide Vr).lt hg (by omega))
      replace Vr := hide ((unhide Vr).grown hg (by omega))
      replace HG := hide (grown_trans (unhide HG) hg)
      clear hS hg HS5
      go_wp2_with fail
      refine (specOf_some _ _ _ _ _).mono ?_
      rintro e w7 ⟨p, q, r, s, k, rfl, hx⟩
      have Vr7 := hide ((unhide Vr).kept (unhide Vr).lt hx)
      have Fr7 := hide ((unhide Fr).kept (unhide Vr).lt hx)
      have HS7w := hide ((unhide HS6).below hx)
      have HG7 := hide (grown_trans (unhide HG) (grownOf hx (some b)))
      have HLT : w.heap.size < w7.heap.size := ((unhide Vr).kept (unhide Vr).lt hx).lt
      replace Fr := hide (((unhide Fr).kept (unhide Vr).lt hx).kept ((unhide Vr).kept (unhide Vr).lt hx).lt (below1 w7 (.cells #[.int .i64 p, .int .i64 q, .int .i64 r, .int .i64 s, .int .i64 k] 45)))
      replace Vr := hide (((unhide Vr).kept (unhide Vr).lt hx).alloc (.cells #[.int .i64 p, .int .i64 q, .int .i64 r, .int .i64 s, .int .i64 k] 45))
      have Vx := hide (outAt_new w7 p q r s k 45)
      have HS7 := hide ((((unhide HS6).below hx)).allocs (.cells #[.int .i64 p, .int .i64 q, .int .i64 r, .int .i64 s, .int .i64 k] 45))
      replace HG := hide (grown_trans (grown_trans (unhide HG) (grownOf hx (some b))) (World.grownBy_alloc w7 (.cells #[.int .i64 p, .int .i64 q, .int .i64 r, .int .i64 s, .int .i64 k] 45) (some b)))
      have hbx : b < w7.heap.size := Nat.lt_of_lt_of_le (unhide HS6).lt hx.size
      clear hx HS6
      have vx := unhide Vx
      obtain ⟨cx0, cx1, cx2, cx3, cx4⟩ := vx
      by_cases hk : k = 0
      · subst hk
        go_wp2_with fail
        clear cx0 cx1 cx2 cx3 cx4
        refine (one_any b 20 _ (unhide HS7) (by omega)).mono ?_
        rintro e w8 ⟨y3, rfl, hS, hg⟩
        replace Vx := hide ((unhide Vx).grown hg (by omega))
        have HS8 := hide hS
        replace Fr := hide ((unhide Fr).grown (unhide Vr).lt hg (by omega))
        replace Vr := hide ((unhide Vr).grown hg (by omega))
        replace HG := hide (grown_trans (unhide HG) hg)
        clear hS hg HS7
        have hlt8 : w.heap.size < w7.heap.size := HLT
        have vx := unhide Vx
        obtain ⟨cx0, cx1, cx2, cx3, cx4⟩ := vx
        obtain ⟨cr0, cr1, cr2, cr3⟩ := unhide Vr
        obtain ⟨fr0, fr1, fr2, fr3⟩ := unhide Fr
        have hbr : b < w.heap.size := hlt
        cases y3
        · have HSX := HS8
          go_wp2_with fail
          exact bodyPost_ret (v := .agg #[.int .i64 p, .int .i64 q, .int .i64 r, .int .i64 s]) (by simp [results, Tryd.results48, go_sem, cr0, cr1, cr2, cr3]) rfl ⟨_, _, _, _, rfl, (((SrcAt.set (unhide HSX) hbr _).set hbr _).set hbr _).set hbr _, grown_set (grown_set (grown_set (grown_set (unhide HG) (Nat.le_refl _) _) (Nat.le_refl _) _) (Nat.le_refl _) _) (Nat.le_refl _) _⟩
        · have hne1 : w.heap.size ≠ w7.heap.size := by have := hlt8; omega
          have hne2 : w7.heap.size ≠ w.heap.size := Ne.symm hne1
          have HC : Hid (w8.cell? ⟨w7.heap.size, 0, none⟩ = some (.int .i64 p) ∧ w8.cell? ⟨w7.heap.size, 1, none⟩ = some (.int .i64 q) ∧ w8.cell? ⟨w7.heap.size, 2, none⟩ = some (.int .i64 r)) := hide ⟨cx0, cx1, cx2⟩
          clear cx0 cx1 cx2 cx3 cx4 cr0 cr1 cr2 cr3 fr0 fr1 fr2 fr3
          go_wp2_with fail
          have cN : Hid (Calls Tryd.prog 44 #[.pointer (some ⟨b, 0, none⟩), .int .i64 4] w8.drew fun e w' => ∃ z : Int, e = .returned (.int .i64 z) ∧ OutAt w' w7.heap.size p q r s 0 ∧ TurnAt w' w.heap.size 0 0 0 0 ∧ FreeT w' w.heap.size ∧ Hid (SrcAt b w') ∧ Hid (w.grownBy w' (some b))) := hide ((n_any b 4 _ (unhide HS8).drewT (by omega)).mono fun e w' ⟨z, he, _, _, _, hSn, hgn⟩ => ⟨z, he, (show OutAt w8.drew w7.heap.size p q r s 0 from unhide Vx).grown hgn (by omega), (show TurnAt w8.drew w.heap.size 0 0 0 0 from unhide Vr).grown hgn (by omega), (show FreeT w8.drew w.heap.size from unhide Fr).grown (unhide Vr).lt hgn (by omega), hide hSn, hide (grown_trans (grownDrew (unhide HG)) hgn)⟩)
          go_region_held (fun w' => w'.cell? ⟨w7.heap.size, 0, none⟩ = some (.int .i64 p) ∧ w'.cell? ⟨w7.heap.size, 1, none⟩ = some (.int .i64 q) ∧ w'.cell? ⟨w7.heap.size, 2, none⟩ = some (.int .i64 r)) (first | (with_reducible exact (unhide HC)) | exact (unhide HC) | (with_reducible exact ⟨q0, q1, q2⟩) | simp [go_sem, q0, q1, q2]) ((go_at_call 44; refine (unhide cN).mono ?_; rintro e wn ⟨zz, rfl, ⟨q0, q1, q2, q3, q4⟩, ⟨cr0, cr1, cr2, cr3⟩, ⟨fr0, fr1, fr2, fr3⟩, HSX, HGX⟩))
          all_goals go_wp2
          all_goals exact bodyPost_ret (v := .agg #[.int .i64 p, .int .i64 q, .int .i64 r, .int .i64 (IntKind.i64.wrap (6 - IntKind.i64.wrap (2 * zz)))]) (by simp [results, Tryd.results48, go_sem, cr0, cr1, cr2, cr3]) rfl ⟨_, _, _, _, rfl, (((SrcAt.set (unhide HSX) hbr _).set hbr _).set hbr _).set hbr _, grown_set (grown_set (grown_set (grown_set (unhide HGX) (Nat.le_refl _) _) (Nat.le_refl _) _) (Nat.le_refl _) _) (Nat.le_refl _) _⟩
      · have hkb : (k != 0) = true := by simpa using hk
        have hkc : (k == 0) = false := by simpa using hk
        have hbr : b < w.heap.size := hlt
        obtain ⟨cr0, cr1, cr2, cr3⟩ := unhide Vr7
        obtain ⟨fr0, fr1, fr2, fr3⟩ := unhide Fr7
        clear Vx
        go_wp2_with fail
        obtain ⟨u0, u1, u2, u3⟩ := (turn_set4 (unhide Vr7) 1 0 0 0).alloc (.cells #[.int .i64 p, .int .i64 q, .int .i64 r, .int .i64 s, .int .i64 k] 45)
        exact bodyPost_ret (v := .agg #[.int .i64 1, .int .i64 0, .int .i64 0, .int .i64 0]) (by simp [results, Tryd.results48, go_sem, u0, u1, u2, u3]) rfl ⟨_, _, _, _, rfl, ((((SrcAt.set (unhide HS7w) hbr _).set hbr _).set hbr _).set hbr _).allocs _, grown_trans (grown_set (grown_set (grown_set (grown_set (unhide HG7) (Nat.le_refl _) _) (Nat.le_refl _) _) (Nat.le_refl _) _) (Nat.le_refl _) _) (World.grownBy_alloc _ _ (some b))⟩
  · go_wp2_with fail
    refine (one_any b 10 _ (unhide HS1) (by omega)).mono ?_
    rintro e w2 ⟨y2, rfl, hS, hg⟩
    have HS2 := hide hS
    replace Fr := hide ((unhide Fr).grown (unhide Vr).lt hg (by omega))
    replace Vr := hide ((unhide Vr).grown hg (by omega))
    replace HG := hide (grown_trans (unhide HG) hg)
    clear hS hg HS1
    cases y2
    · go_wp2_with fail
      refine (n_any b 5 _ (unhide HS2) (by omega)).mono ?_
      rintro e w3 ⟨z0, rfl, _, _, _, hS, hg⟩
      have HS3 := hide hS
      replace Fr := hide ((unhide Fr).grown (unhide Vr).lt hg (by omega))
      replace Vr := hide ((unhide Vr).grown hg (by omega))
      replace HG := hide (grown_trans (unhide HG) hg)
      clear hS hg HS2
      go_wp2_with fail
      refine (n_any b 5 _ (unhide HS3) (by omega)).mono ?_
      rintro e w4 ⟨z1, rfl, _, _, _, hS, hg⟩
      have HS4 := hide hS
      replace Fr := hide ((unhide Fr).grown (unhide Vr).lt hg (by omega))
      replace Vr := hide ((unhide Vr).grown hg (by omega))
      replace HG := hide (grown_trans (unhide HG) hg)
      clear hS hg HS3
      go_wp2_with fail
      refine (n_any b 5 _ (unhide HS4) (by omega)).mono ?_
      rintro e w5 ⟨z2, rfl, _, _, _, hS, hg⟩
      have HS5 := hide hS
      replace Fr := hide ((unhide Fr).grown (unhide Vr).lt hg (by omega))
      replace Vr := hide ((unhide Vr).grown hg (by omega))
      replace HG := hide (grown_trans (unhide HG) hg)
      clear hS hg HS4
      go_wp2_with fail
      refine (n_any b 5 _ (unhide HS5) (by omega)).mono ?_
      rintro e w6 ⟨z3, rfl, _, _, _, hS, hg⟩
      have HS6 := hide hS
      replace Fr := hide ((unhide Fr).grown (unhide Vr).lt hg (by omega))
      replace Vr := hide ((unhide Vr).grown hg (by omega))
      replace HG := hide (grown_trans (unhide HG) hg)
      clear hS hg HS5
      go_wp2_with fail
      refine (specOf_some _ _ _ _ _).mono ?_
      rintro e w7 ⟨p, q, r, s, k, rfl, hx⟩
      have Vr7 := hide ((unhide Vr).kept (unhide Vr).lt hx)
      have Fr7 := hide ((unhide Fr).kept (unhide Vr).lt hx)
      have HS7w := hide ((unhide HS6).below hx)
      have HG7 := hide (grown_trans (unhide HG) (grownOf hx (some b)))
      have HLT : w.heap.size < w7.heap.size := ((unhide Vr).kept (unhide Vr).lt hx).lt
      replace Fr := hide (((unhide Fr).kept (unhide Vr).lt hx).kept ((unhide Vr).kept (unhide Vr).lt hx).lt (below1 w7 (.cells #[.int .i64 p, .int .i64 q, .int .i64 r, .int .i64 s, .int .i64 k] 45)))
      replace Vr := hide (((unhide Vr).kept (unhide Vr).lt hx).alloc (.cells #[.int .i64 p, .int .i64 q, .int .i64 r, .int .i64 s, .int .i64 k] 45))
      have Vx := hide (outAt_new w7 p q r s k 45)
      have HS7 := hide ((((unhide HS6).below hx)).allocs (.cells #[.int .i64 p, .int .i64 q, .int .i64 r, .int .i64 s, .int .i64 k] 45))
      replace HG := hide (grown_trans (grown_trans (unhide HG) (grownOf hx (some b))) (World.grownBy_alloc w7 (.cells #[.int .i64 p, .int .i64 q, .int .i64 r, .int .i64 s, .int .i64 k] 45) (some b)))
      have hbx : b < w7.heap.size := Nat.lt_of_lt_of_le (unhide HS6).lt hx.size
      clear hx HS6
      have vx := unhide Vx
      obtain ⟨cx0, cx1, cx2, cx3, cx4⟩ := vx
      by_cases hk : k = 0
      · subst hk
        go_wp2_with fail
        clear cx0 cx1 cx2 cx3 cx4
        refine (one_any b 20 _ (unhide HS7) (by omega)).mono ?_
        rintro e w8 ⟨y3, rfl, hS, hg⟩
        replace Vx := hide ((unhide Vx).grown hg (by omega))
        have HS8 := hide hS
        replace Fr := hide ((unhide Fr).grown (unhide Vr).lt hg (by omega))
        replace Vr := hide ((unhide Vr).grown hg (by omega))
        replace HG := hide (grown_trans (unhide HG) hg)
        clear hS hg HS7
        have hlt8 : w.heap.size < w7.heap.size := HLT
        have vx := unhide Vx
        obtain ⟨cx0, cx1, cx2, cx3, cx4⟩ := vx
        obtain ⟨cr0, cr1, cr2, cr3⟩ := unhide Vr
        obtain ⟨fr0, fr1, fr2, fr3⟩ := unhide Fr
        have hbr : b < w.heap.size := hlt
        cases y3
        · have HSX := HS8
          go_wp2_with fail
          exact bodyPost_ret (v := .agg #[.int .i64 p, .int .i64 q, .int .i64 r, .int .i64 s]) (by simp [results, Tryd.results48, go_sem, cr0, cr1, cr2, cr3]) rfl ⟨_, _, _, _, rfl, (((SrcAt.set (unhide HSX) hbr _).set hbr _).set hbr _).set hbr _, grown_set (grown_set (grown_set (grown_set (unhide HG) (Nat.le_refl _) _) (Nat.le_refl _) _) (Nat.le_refl _) _) (Nat.le_refl _) _⟩
        · have hne1 : w.heap.size ≠ w7.heap.size := by have := hlt8; omega
          have hne2 : w7.heap.size ≠ w.heap.size := Ne.symm hne1
          have HC : Hid (w8.cell? ⟨w7.heap.size, 0, none⟩ = some (.int .i64 p) ∧ w8.cell? ⟨w7.heap.size, 1, none⟩ = some (.int .i64 q) ∧ w8.cell? ⟨w7.heap.size, 2, none⟩ = some (.int .i64 r)) := hide ⟨cx0, cx1, cx2⟩
          clear cx0 cx1 cx2 cx3 cx4 cr0 cr1 cr2 cr3 fr0 fr1 fr2 fr3
          go_wp2_with fail
          have cN : Hid (Calls Tryd.prog 44 #[.pointer (some ⟨b, 0, none⟩), .int .i64 4] w8.drew fun e w' => ∃ z : Int, e = .returned (.int .i64 z) ∧ OutAt w' w7.heap.size p q r s 0 ∧ TurnAt w' w.heap.size 0 0 0 0 ∧ FreeT w' w.heap.size ∧ Hid (SrcAt b w') ∧ Hid (w.grownBy w' (some b))) := hide ((n_any b 4 _ (unhide HS8).drewT (by omega)).mono fun e w' ⟨z, he, _, _, _, hSn, hgn⟩ => ⟨z, he, (show OutAt w8.drew w7.heap.size p q r s 0 from unhide Vx).grown hgn (by omega), (show TurnAt w8.drew w.heap.size 0 0 0 0 from unhide Vr).grown hgn (by omega), (show FreeT w8.drew w.heap.size from unhide Fr).grown (unhide Vr).lt hgn (by omega), hide hSn, hide (grown_trans (grownDrew (unhide HG)) hgn)⟩)
          go_region_held (fun w' => w'.cell? ⟨w7.heap.size, 0, none⟩ = some (.int .i64 p) ∧ w'.cell? ⟨w7.heap.size, 1, none⟩ = some (.int .i64 q) ∧ w'.cell? ⟨w7.heap.size, 2, none⟩ = some (.int .i64 r)) (first | (with_reducible exact (unhide HC)) | exact (unhide HC) | (with_reducible exact ⟨q0, q1, q2⟩) | simp [go_sem, q0, q1, q2]) ((go_at_call 44; refine (unhide cN).mono ?_; rintro e wn ⟨zz, rfl, ⟨q0, q1, q2, q3, q4⟩, ⟨cr0, cr1, cr2, cr3⟩, ⟨fr0, fr1, fr2, fr3⟩, HSX, HGX⟩))
          all_goals go_wp2
          all_goals exact bodyPost_ret (v := .agg #[.int .i64 p, .int .i64 q, .int .i64 r, .int .i64 (IntKind.i64.wrap (6 - IntKind.i64.wrap (2 * zz)))]) (by simp [results, Tryd.results48, go_sem, cr0, cr1, cr2, cr3]) rfl ⟨_, _, _, _, rfl, (((SrcAt.set (unhide HSX) hbr _).set hbr _).set hbr _).set hbr _, grown_set (grown_set (grown_set (grown_set (unhide HGX) (Nat.le_refl _) _) (Nat.le_refl _) _) (Nat.le_refl _) _) (Nat.le_refl _) _⟩
      · have hkb : (k != 0) = true := by simpa using hk
        have hkc : (k == 0) = false := by simpa using hk
        have hbr : b < w.heap.size := hlt
        obtain ⟨cr0, cr1, cr2, cr3⟩ := unhide Vr7
        obtain ⟨fr0, fr1, fr2, fr3⟩ := unhide Fr7
        clear Vx
        go_wp2_with fail
        obtain ⟨u0, u1, u2, u3⟩ := (turn_set4 (unhide Vr7) 1 0 0 0).alloc (.cells #[.int .i64 p, .int .i64 q, .int .i64 r, .int .i64 s, .int .i64 k] 45)
        exact bodyPost_ret (v := .agg #[.int .i64 1, .int .i64 0, .int .i64 0, .int .i64 0]) (by simp [results, Tryd.results48, go_sem, u0, u1, u2, u3]) rfl ⟨_, _, _, _, rfl, ((((SrcAt.set (unhide HS7w) hbr _).set hbr _).set hbr _).set hbr _).allocs _, grown_trans (grown_set (grown_set (grown_set (grown_set (unhide HG7) (Nat.le_refl _) _) (Nat.le_refl _) _) (Nat.le_refl _) _) (Nat.le_refl _) _) (World.grownBy_alloc _ _ (some b))⟩
    · go_wp2_with fail
      refine (n_any b 11 _ (unhide HS2) (by omega)).mono ?_
      rintro e w3 ⟨z0, rfl, _, _, _, hS, hg⟩
      have HS3 := hide hS
      replace Fr := hide ((unhide Fr).grown (unhide Vr).lt hg (by omega))
      replace Vr := hide ((unhide Vr).grown hg (by omega))
      replace HG := hide (grown_trans (unhide HG) hg)
      clear hS hg HS2
      go_wp2_with fail
      refine (n_any b 11 _ (unhide HS3) (by omega)).mono ?_
      rintro e w4 ⟨z1, rfl, _, _, _, hS, hg⟩
      have HS4 := hide hS
      replace Fr := hide ((unhide Fr).grown (unhide Vr).lt hg (by omega))
      replace Vr := hide ((unhide Vr).grown hg (by omega))
      replace HG := hide (grown_trans (unhide HG) hg)
      clear hS hg HS3
      go_wp2_with fail
      refine (n_any b 11 _ (unhide HS4) (by omega)).mono ?_
      rintro e w5 ⟨z2, rfl, _, _, _, hS, hg⟩
      have HS5 := hide hS
      replace Fr := hide ((unhide Fr).grown (unhide Vr).lt hg (by omega))
      replace Vr := hide ((unhide Vr).grown hg (by omega))
      replace HG := hide (grown_trans (unhide HG) hg)
      clear hS hg HS4
      go_wp2_with fail
      refine (n_any b 11 _ (unhide HS5) (by omega)).mono ?_
      rintro e w6 ⟨z3, rfl, _, _, _, hS, hg⟩
      have HS6 := hide hS
      replace Fr := hide ((unhide Fr).grown (unhide Vr).lt hg (by omega))
      replace Vr := hide ((unhide Vr).grown hg (by omega))
      replace HG := hide (grown_trans (unhide HG) hg)
      clear hS hg HS5
      go_wp2_with fail
      refine (specOf_some _ _ _ _ _).mono ?_
      rintro e w7 ⟨p, q, r, s, k, rfl, hx⟩
      have Vr7 := hide ((unhide Vr).kept (unhide Vr).lt hx)
      have Fr7 := hide ((unhide Fr).kept (unhide Vr).lt hx)
      have HS7w := hide ((unhide HS6).below hx)
      have HG7 := hide (grown_trans (unhide HG) (grownOf hx (some b)))
      have HLT : w.heap.size < w7.heap.size := ((unhide Vr).kept (unhide Vr).lt hx).lt
      replace Fr := hide (((unhide Fr).kept (unhide Vr).lt hx).kept ((unhide Vr).kept (unhide Vr).lt hx).lt (below1 w7 (.cells #[.int .i64 p, .int .i64 q, .int .i64 r, .int .i64 s, .int .i64 k] 45)))
      replace Vr := hide (((unhide Vr).kept (unhide Vr).lt hx).alloc (.cells #[.int .i64 p, .int .i64 q, .int .i64 r, .int .i64 s, .int .i64 k] 45))
      have Vx := hide (outAt_new w7 p q r s k 45)
      have HS7 := hide ((((unhide HS6).below hx)).allocs (.cells #[.int .i64 p, .int .i64 q, .int .i64 r, .int .i64 s, .int .i64 k] 45))
      replace HG := hide (grown_trans (grown_trans (unhide HG) (grownOf hx (some b))) (World.grownBy_alloc w7 (.cells #[.int .i64 p, .int .i64 q, .int .i64 r, .int .i64 s, .int .i64 k] 45) (some b)))
      have hbx : b < w7.heap.size := Nat.lt_of_lt_of_le (unhide HS6).lt hx.size
      clear hx HS6
      have vx := unhide Vx
      obtain ⟨cx0, cx1, cx2, cx3, cx4⟩ := vx
      by_cases hk : k = 0
      · subst hk
        go_wp2_with fail
        clear cx0 cx1 cx2 cx3 cx4
        refine (one_any b 20 _ (unhide HS7) (by omega)).mono ?_
        rintro e w8 ⟨y3, rfl, hS, hg⟩
        replace Vx := hide ((unhide Vx).grown hg (by omega))
        have HS8 := hide hS
        replace Fr := hide ((unhide Fr).grown (unhide Vr).lt hg (by omega))
        replace Vr := hide ((unhide Vr).grown hg (by omega))
        replace HG := hide (grown_trans (unhide HG) hg)
        clear hS hg HS7
        have hlt8 : w.heap.size < w7.heap.size := HLT
        have vx := unhide Vx
        obtain ⟨cx0, cx1, cx2, cx3, cx4⟩ := vx
        obtain ⟨cr0, cr1, cr2, cr3⟩ := unhide Vr
        obtain ⟨fr0, fr1, fr2, fr3⟩ := unhide Fr
        have hbr : b < w.heap.size := hlt
        cases y3
        · have HSX := HS8
          go_wp2_with fail
          exact bodyPost_ret (v := .agg #[.int .i64 p, .int .i64 q, .int .i64 r, .int .i64 s]) (by simp [results, Tryd.results48, go_sem, cr0, cr1, cr2, cr3]) rfl ⟨_, _, _, _, rfl, (((SrcAt.set (unhide HSX) hbr _).set hbr _).set hbr _).set hbr _, grown_set (grown_set (grown_set (grown_set (unhide HG) (Nat.le_refl _) _) (Nat.le_refl _) _) (Nat.le_refl _) _) (Nat.le_refl _) _⟩
        · have hne1 : w.heap.size ≠ w7.heap.size := by have := hlt8; omega
          have hne2 : w7.heap.size ≠ w.heap.size := Ne.symm hne1
          have HC : Hid (w8.cell? ⟨w7.heap.size, 0, none⟩ = some (.int .i64 p) ∧ w8.cell? ⟨w7.heap.size, 1, none⟩ = some (.int .i64 q) ∧ w8.cell? ⟨w7.heap.size, 2, none⟩ = some (.int .i64 r)) := hide ⟨cx0, cx1, cx2⟩
          clear cx0 cx1 cx2 cx3 cx4 cr0 cr1 cr2 cr3 fr0 fr1 fr2 fr3
          go_wp2_with fail
          have cN : Hid (Calls Tryd.prog 44 #[.pointer (some ⟨b, 0, none⟩), .int .i64 4] w8.drew fun e w' => ∃ z : Int, e = .returned (.int .i64 z) ∧ OutAt w' w7.heap.size p q r s 0 ∧ TurnAt w' w.heap.size 0 0 0 0 ∧ FreeT w' w.heap.size ∧ Hid (SrcAt b w') ∧ Hid (w.grownBy w' (some b))) := hide ((n_any b 4 _ (unhide HS8).drewT (by omega)).mono fun e w' ⟨z, he, _, _, _, hSn, hgn⟩ => ⟨z, he, (show OutAt w8.drew w7.heap.size p q r s 0 from unhide Vx).grown hgn (by omega), (show TurnAt w8.drew w.heap.size 0 0 0 0 from unhide Vr).grown hgn (by omega), (show FreeT w8.drew w.heap.size from unhide Fr).grown (unhide Vr).lt hgn (by omega), hide hSn, hide (grown_trans (grownDrew (unhide HG)) hgn)⟩)
          go_region_held (fun w' => w'.cell? ⟨w7.heap.size, 0, none⟩ = some (.int .i64 p) ∧ w'.cell? ⟨w7.heap.size, 1, none⟩ = some (.int .i64 q) ∧ w'.cell? ⟨w7.heap.size, 2, none⟩ = some (.int .i64 r)) (first | (with_reducible exact (unhide HC)) | exact (unhide HC) | (with_reducible exact ⟨q0, q1, q2⟩) | simp [go_sem, q0, q1, q2]) ((go_at_call 44; refine (unhide cN).mono ?_; rintro e wn ⟨zz, rfl, ⟨q0, q1, q2, q3, q4⟩, ⟨cr0, cr1, cr2, cr3⟩, ⟨fr0, fr1, fr2, fr3⟩, HSX, HGX⟩))
          all_goals go_wp2
          all_goals exact bodyPost_ret (v := .agg #[.int .i64 p, .int .i64 q, .int .i64 r, .int .i64 (IntKind.i64.wrap (6 - IntKind.i64.wrap (2 * zz)))]) (by simp [results, Tryd.results48, go_sem, cr0, cr1, cr2, cr3]) rfl ⟨_, _, _, _, rfl, (((SrcAt.set (unhide HSX) hbr _).set hbr _).set hbr _).set hbr _, grown_set (grown_set (grown_set (grown_set (unhide HGX) (Nat.le_refl _) _) (Nat.le_refl _) _) (Nat.le_refl _) _) (Nat.le_refl _) _⟩
      · have hkb : (k != 0) = true := by simpa using hk
        have hkc : (k == 0) = false := by simpa using hk
        have hbr : b < w.heap.size := hlt
        obtain ⟨cr0, cr1, cr2, cr3⟩ := unhide Vr7
        obtain ⟨fr0, fr1, fr2, fr3⟩ := unhide Fr7
        clear Vx
        go_wp2_with fail
        obtain ⟨u0, u1, u2, u3⟩ := (turn_set4 (unhide Vr7) 1 0 0 0).alloc (.cells #[.int .i64 p, .int .i64 q, .int .i64 r, .int .i64 s, .int .i64 k] 45)
        exact bodyPost_ret (v := .agg #[.int .i64 1, .int .i64 0, .int .i64 0, .int .i64 0]) (by simp [results, Tryd.results48, go_sem, u0, u1, u2, u3]) rfl ⟨_, _, _, _, rfl, ((((SrcAt.set (unhide HS7w) hbr _).set hbr _).set hbr _).set hbr _).allocs _, grown_trans (grown_set (grown_set (grown_set (grown_set (unhide HG7) (Nat.le_refl _) _) (Nat.le_refl _) _) (Nat.le_refl _) _) (Nat.le_refl _) _) (World.grownBy_alloc _ _ (some b))⟩
end Go.Proofs.YtijpnnooenpjoaaDoor
