/- Several texts in one: DtC, DtE, DtH. -/
import Derived.Test.YtdchjcadhlkpfaaGreatDoorQFnTopOwn42
import Derived.Test.YtdchjcadhlkpfaaGreatDoorQFnTopOwn3
import Derived.Test.YtdchjcadhlkpfaaGreatDoorQFnTopOwn1
import Derived.Test.YtdchjcadhlkpfaaGreatDoorQFnTopOwn13
import Derived.Test.YtdchjcadhlkpfaaGreatDoorQFnTopOwn21
namespace Go.Proofs.YtdchjcadhlkpfaaGreatDoor
set_option linter.unusedVariables false
set_option linter.unusedSimpArgs false
set_option maxRecDepth 100000
set_option maxHeartbeats 8000000
section
open Go.RowKit Go.Sort
theorem un {L : List St} (h : be L = true) (id : Int) : lh L id = atV L L.length id := by unfold lh; rw [if_pos h]
theorem pk {L : List St} {a b c d cone id : Int} (h : id ∈ dm L a b c d cone) : be L = true ∧ az a b c d = true ∧ ba (atV L L.length id).1 (atV L L.length id).2.1 (atV L L.length id).2.2 = true := by
 obtain ⟨h1, h2, i, hi, rfl⟩ := sM h
 exact ⟨h1, h2, uV h1 hi⟩
theorem nD (L : List St) (a b c d cone : Int) : bc L a b c d cone = ((dm L a b c d cone).take (min (dm L a b c d cone).length 6)).map (eW L a b c d) := by
 unfold bc
 congr 1
 by_cases h : (dm L a b c d cone).length ≤ 6
 ·rw [Nat.min_eq_left h, List.take_of_length_le h, List.take_of_length_le (Nat.le_refl _)]
 ·rw [Nat.min_eq_right (by omega)]
theorem kX (w : World) (B : Nat) (t : Tk) (u : U4) (a : Option Addr) (cap : Nat) (p : Addr) (cone : Int) (hk : ax t = true) (hB : B ≤ w.heap.size) (hC : ay w B t.L a cap) (hE : fC p w) :
  Calls Tryz.prog 117 #[.agg #[.slice a t.L.length cap, .int .i64 t.lim, .int .i64 t.mode, .int .i64 t.A, .int .i64 t.B, .int .i64 t.C, .int .i64 t.D, .int .i64 t.coast, .int .i64 t.fr, .int .i64 u.1, .int .i64 u.2.1, .int .i64 u.2.2.1, .int .i64 u.2.2.2], .int .i64 cone] w fun e w' => (∃ v, e = .returned v ∧ w'.ownsRow w.heap.size 72 3 v (bc t.L u.1 u.2.1 u.2.2.1 u.2.2.2 cone).length (cZ (bc t.L u.1 u.2.1 u.2.2.1 u.2.2.2 cone))) ∧ Below w.heap.size w w' := by
 obtain ⟨i0, hinf, hz0, hz1, hz2⟩ := info_parts ta
 have hm8 : 400 ≤ maxLen := by decide +kernel
 have hmx : maxLen ≤ 9223372036854775807 := by decide +kernel
 have hn : t.L.length ≤ 1048576 := Nat.le_trans (dF hk).1 (by decide)
 obtain ⟨u1, u2, u3, u4⟩ := u
 obtain ⟨L, lim, mode, A, B', C, D, coast, fr⟩ := t
 dsimp only at hn hC ⊢
 have HZ := yz (an w (.cells #[.slice a L.length cap, .int .i64 lim, .int .i64 mode, .int .i64 A, .int .i64 B', .int .i64 C, .int .i64 D, .int .i64 coast, .int .i64 fr, .int .i64 u1, .int .i64 u2, .int .i64 u3, .int .i64 u4] 61))
 have HD := yz (au w [.slice a L.length cap, .int .i64 lim, .int .i64 mode, .int .i64 A, .int .i64 B', .int .i64 C, .int .i64 D, .int .i64 coast, .int .i64 fr, .int .i64 u1, .int .i64 u2, .int .i64 u3, .int .i64 u4] 61)
 have hcp := du hC
 have cS := yz (fun (W : World) h1 h2 => sZ L u1 u2 u3 u4 cone a cap p W hn hcp.1 (by omega) h1 h2)
 have cA := yz (fun (W : World) (id : Int) h1 h2 => kv L id a cap p W hn hcp.1 (by omega) h1 h2)
 have HC := yz (hC.kept (yy HZ)).stars
 have HE := yz (hE.kept (yy HZ))
 have HSM := yz (fun id h => pk (L := L) (a := u1) (b := u2) (c := u3) (d := u4) (cone := cone) (id := id) h)
 have HST := yz (fun h id => un (L := L) h id)
 have HSP := yz (nD L u1 u2 u3 u4 cone)
 have HSN := yz (fun k h6 hk => on L u1 u2 u3 u4 cone (k := k) h6 hk)
 have hsl := pc L u1 u2 u3 u4 cone
 generalize bc L u1 u2 u3 u4 cone = SP at *
 generalize dm L u1 u2 u3 u4 cone = SE at *
 clear hC hE hk hcp
 have d0 := (yy HD).cell 0 _ rfl
 have d9 := (yy HD).cell 9 _ rfl
 have d10 := (yy HD).cell 10 _ rfl
 have d11 := (yy HD).cell 11 _ rfl
 have d12 := (yy HD).cell 12 _ rfl
 go_enter Tryz.func117, Tryz.ntmps117
 go_wp2_with fail
 refine ((yy cS) _ (yy HC) (yy HE).1).mono ?_
 rintro e W1 ⟨v1, rfl, hR1, hx⟩
 obtain ⟨a1, c1, rfl⟩ := gg hR1
 have HR1 := yz hR1
 have HB1 := yz (ak (yy HZ) hx)
 have HC1 := yz ((yy HC).kept hx)
 have HE1 := yz ((yy HE).kept hx)
 have HD1 := yz ((yy HD).kept hx)
 have hwl : w.heap.size < W1.heap.size := (yy HD1).lt
 have hcap1 : SE.length ≤ c1 ∧ c1 ≤ 9223372036854775807 := by
  rcases hR1.2 with ⟨h1, h0⟩ | ⟨g, c', cur, e, _, _, h1, h2, _⟩
  ·injection h1 with _ _ e3; omega
  ·injection e with _ _ e3; omega
 clear hR1 hx d0 d9 d10 d11 d12 HZ HD HC HE cS
 obtain ⟨m, hm⟩ : ∃ m, min SE.length 6 = m := ⟨_, rfl⟩
 rw [hm] at HSP
 have hmi : min (SE.length : Int) 6 = (m : Int) := by omega
 have hm1 : m ≤ SE.length := by omega
 have hm6 : m ≤ 6 := by omega
 have HO : Hid (W1.ownsRow W1.heap.size 72 3 (.slice none 0 0) ((SE.take 0).map (eW L u1 u2 u3 u4)).length (cZ ((SE.take 0).map (eW L u1 u2 u3 u4)))) := yz (World.ownsRow_nil _ _ _ _)
 go_wp2_with fail
 go_loopw [6, 23] (fun v kk wr => ∃ k : Nat, k ≤ m ∧ kk = .int .i64 k ∧ Hid (wr.ownsRow W1.heap.size 72 3 v ((SE.take k).map (eW L u1 u2 u3 u4)).length (cZ ((SE.take k).map (eW L u1 u2 u3 u4)))) ∧ Hid (Below W1.heap.size W1 wr)) (fun _ kk _ => m - (intOf kk).toNat)
 case atStart => exact ⟨0, by omega, rfl, HO, yz (Below.refl _ _)⟩
 case round =>
  clear HO
  obtain ⟨k, hk, rfl, HO, HW⟩ := hrel
  by_cases hkn : k < m
  ·have hkn2 : (k : Int) < (m : Int) := by omega
   have HSN1 := yz (yy HSN k (by omega) (by omega))
   obtain ⟨PR, HPR⟩ : ∃ PR, Hid ((SE.take k).map (eW L u1 u2 u3 u4) = PR) := ⟨_, yz rfl⟩
   have hpl : PR.length ≤ 6 := by rw [← yy HPR, List.length_map, List.length_take]; omega
   rw [yy HPR] at HO HSN1
   obtain ⟨g, ha, hg1, hg2, ci⟩ := qX (yy HR1) rfl (show k < SE.length by omega)
   subst ha
   have hmem : SE.getD k 0 ∈ SE := by rw [List.getD_eq_getElem?_getD, List.getElem?_eq_getElem (show k < SE.length by omega)]; exact List.getElem_mem (show k < SE.length by omega)
   obtain ⟨hsk, hrt, hsm⟩ := yy HSM _ hmem
   clear hmem
   have hkS : (k : Int) < (SE.length : Int) := by omega
   generalize SE.getD k 0 = id at *
   have HVV : Hid (eW L u1 u2 u3 u4 id = (prI (aw (apD u1 u2 u3 u4 (atV L L.length id)).1 (apD u1 u2 u3 u4 (atV L L.length id)).2.1 (apD u1 u2 u3 u4 (atV L L.length id)).2.2) (gI (apD u1 u2 u3 u4 (atV L L.length id)).1 (apD u1 u2 u3 u4 (atV L L.length id)).2.1 (apD u1 u2 u3 u4 (atV L L.length id)).2.2) (apD u1 u2 u3 u4 (atV L L.length id)).1, prI (aw (apD u1 u2 u3 u4 (atV L L.length id)).1 (apD u1 u2 u3 u4 (atV L L.length id)).2.1 (apD u1 u2 u3 u4 (atV L L.length id)).2.2) (gI (apD u1 u2 u3 u4 (atV L L.length id)).1 (apD u1 u2 u3 u4 (atV L L.length id)).2.1 (apD u1 u2 u3 u4 (atV L L.length id)).2.2) (apD u1 u2 u3 u4 (atV L L.length id)).2.1, prI (aw (apD u1 u2 u3 u4 (atV L L.length id)).1 (apD u1 u2 u3 u4 (atV L L.length id)).2.1 (apD u1 u2 u3 u4 (atV L L.length id)).2.2) (gI (apD u1 u2 u3 u4 (atV L L.length id)).1 (apD u1 u2 u3 u4 (atV L L.length id)).2.1 (apD u1 u2 u3 u4 (atV L L.length id)).2.2) (apD u1 u2 u3 u4 (atV L L.length id)).2.2)) := yz rfl
   have cA1 := yz (fun (W : World) h1 h2 => yy cA W id h1 h2)
   rw [yy HST hsk id] at cA1
   generalize atV L L.length id = q at *
   obtain ⟨x, y, z⟩ := q
   unfold vP at cA1
   dsimp only at hsm cA1
   have cT := yz (fun W => fH u1 u2 u3 u4 (x, y, z) W hrt hsm)
   dsimp only at cT
   generalize apD u1 u2 u3 u4 (x, y, z) = q2 at *
   obtain ⟨x2, y2, z2⟩ := q2
   dsimp only at cT HVV
   have cP := yz (fun W => iK x2 y2 z2 W)
   generalize prI (aw x2 y2 z2) (gI x2 y2 z2) x2 = r1 at *
   generalize prI (aw x2 y2 z2) (gI x2 y2 z2) y2 = r2 at *
   generalize prI (aw x2 y2 z2) (gI x2 y2 z2) z2 = r3 at *
   clear hsk hrt hsm
   have HDr := yz ((yy HD1).kept (yy HW))
   have d0 := (yy HDr).cell 0 _ rfl
   have dI : wr.cell? ⟨g, k, none⟩ = some (.int .i64 id) := by rw [(yy HW).cell hg2]; exact ci
   clear ci
   go_wp2_with fail
   refine ((yy cA1) wr ((yy HC1).kept (yy HW)) ((yy HE1).1.kept (yy HW))).mono ?_
   rintro e V1 ⟨rfl, hx⟩
   have hy := an V1 (.cells #[.int .i64 x, .int .i64 y, .int .i64 z] 72)
   have HX := yz (au V1 [.int .i64 x, .int .i64 y, .int .i64 z] 72)
   have HW1 := yz (ak (ak (yy HW) hx) hy)
   have HO1 := yz (bF (bF (yy HO) hx) hy)
   have HD2 := yz (((yy HDr).kept hx).kept hy)
   clear hx hy HO d0 dI HDr
   have d9 := (yy HD2).cell 9 _ rfl
   have d10 := (yy HD2).cell 10 _ rfl
   have d11 := (yy HD2).cell 11 _ rfl
   have d12 := (yy HD2).cell 12 _ rfl
   have x0 := (yy HX).cell 0 _ rfl
   have x1 := (yy HX).cell 1 _ rfl
   have x2' := (yy HX).cell 2 _ rfl
   go_wp2_with fail
   refine ((yy cT) _).mono ?_
   rintro e V2 ⟨rfl, hx⟩
   have HW2 := yz (ak (yy HW1) hx)
   have HO2 := yz (bF (yy HO1) hx)
   clear hx d9 d10 d11 d12 x0 x1 x2' HX HW1 HO1 HD2
   go_wp2_with fail
   refine ((yy cP) _).mono ?_
   rintro e V3 ⟨rfl, hx⟩
   have hy := an V3 (.cells #[.int .i64 r1, .int .i64 r2, .int .i64 r3] 72)
   have HW3 := yz (ak (ak (yy HW2) hx) hy)
   have hown := bF (bF (yy HO2) hx) hy
   have hs3 := (yy HW3).size
   clear hx hy HW2 HO2
   go_wp2_with (at_builtin; refine wpList_append_own _ rfl _ _ 78 rfl W1.heap.size 72 i0 (.agg #[.int .i64 0, .int .i64 0, .int .i64 0]) 3 24 Tryz.underlying78 hinf hz0 hz1 hz2 rfl (by decide) _ _ _ rfl hown ⟨V3.heap.size, 0, none⟩ 1 1 (cZ [(r1, r2, r3)]) rfl rfl ?d2 (fun u hu => pB hu) ?d3 ?d4 ?d5 ?_)
   case d2 => exact iM _ _ _
   case d3 => omega
   case d4 => omega
   case d5 => exact hs3
   intro v7 V7 hown7 hgrow7 _
   have HW7 := yz (oN (yy HW3) hgrow7 hs3 (fun q e => (hown.lt q e).1))
   have HO7 : Hid (V7.ownsRow W1.heap.size 72 3 v7 ((SE.take (k + 1)).map (eW L u1 u2 u3 u4)).length (cZ ((SE.take (k + 1)).map (eW L u1 u2 u3 u4)))) := yz (by rw [yy HSN1, yy HVV, rG, List.length_append]; exact hown7)
   clear hown7 hgrow7 hown HW3
   go_wp2_with fail
   go_roundw
   case rel => exact ⟨k + 1, by omega, by go_num, HO7, HW7⟩
   case measure => simp [intOf] <;> omega
  ·have hke : k = m := by omega
   subst hke
   go_wp2_with fail
   go_ret
   rw [yy HSP]
   exact ⟨⟨_, rfl, eS (yy HO) (Nat.le_of_lt hwl)⟩, ak (yy HB1) (yy HW)⟩
theorem th (w : World) (B : Nat) (t : Tk) (u : U4) (a : Option Addr) (cap : Nat) (p : Addr) (tx : ByteArray) (n : Int) (hk : ax t = true) (hB : B ≤ w.heap.size) (hC : ay w B t.L a cap) (hE : fC p w) :
  Calls Tryz.prog 94 #[.agg #[.slice a t.L.length cap, .int .i64 t.lim, .int .i64 t.mode, .int .i64 t.A, .int .i64 t.B, .int .i64 t.C, .int .i64 t.D, .int .i64 t.coast, .int .i64 t.fr, .int .i64 u.1, .int .i64 u.2.1, .int .i64 u.2.2.1, .int .i64 u.2.2.2], .agg #[.string tx, .int .i64 n]] w fun e w' => Ans w' B (t, u) (((dL t (bc t.L u.1 u.2.1 u.2.2.1 u.2.2.2 n)).1, u), (dL t (bc t.L u.1 u.2.1 u.2.2.1 u.2.2.2 n)).2) e ∧ Below w.heap.size w w' := by
 have hmx : maxLen ≤ 9223372036854775807 := by decide +kernel
 have HZ := yz (aH w (.cells #[.slice a t.L.length cap, .int .i64 t.lim, .int .i64 t.mode, .int .i64 t.A, .int .i64 t.B, .int .i64 t.C, .int .i64 t.D, .int .i64 t.coast, .int .i64 t.fr, .int .i64 u.1, .int .i64 u.2.1, .int .i64 u.2.2.1, .int .i64 u.2.2.2] 61) (.cells #[.string tx, .int .i64 n] 90))
 have HC := yz (hC.kept (yy HZ))
 have HE := yz (hE.kept (yy HZ))
 have hB2 := Nat.le_trans hB (yy HZ).size
 have cS := yz (fun (W : World) hB' h1 h2 => kX W B t u a cap p n hk hB' h1 h2)
 have hs6 := gC t.L u.1 u.2.1 u.2.2.1 u.2.2.2 n
 have cL := yz (fun (W : World) S br dr hn2 hB' h1 h2 => lC W B t u a cap p S br dr hn2 hk hB' h1 h2)
 generalize bc t.L u.1 u.2.1 u.2.2.1 u.2.2.2 n = S at *
 obtain ⟨u1, u2, u3, u4⟩ := u
 obtain ⟨L, lim, mode, A, B', C, D, coast, fr⟩ := t
 dsimp only at cL cS HZ HC hB2 HE ⊢
 have HD := yz ((au w [.slice a L.length cap, .int .i64 lim, .int .i64 mode, .int .i64 A, .int .i64 B', .int .i64 C, .int .i64 D, .int .i64 coast, .int .i64 fr, .int .i64 u1, .int .i64 u2, .int .i64 u3, .int .i64 u4] 61).alloc (.cells #[.string tx, .int .i64 n] 90))
 have HX : Hid (Blk ((w.alloc (.cells #[.slice a L.length cap, .int .i64 lim, .int .i64 mode, .int .i64 A, .int .i64 B', .int .i64 C, .int .i64 D, .int .i64 coast, .int .i64 fr, .int .i64 u1, .int .i64 u2, .int .i64 u3, .int .i64 u4] 61)).alloc (.cells #[.string tx, .int .i64 n] 90)) (w.heap.size + 1) [.string tx, .int .i64 n] 90) := yz (by have h := au (w.alloc (.cells #[.slice a L.length cap, .int .i64 lim, .int .i64 mode, .int .i64 A, .int .i64 B', .int .i64 C, .int .i64 D, .int .i64 coast, .int .i64 fr, .int .i64 u1, .int .i64 u2, .int .i64 u3, .int .i64 u4] 61)) [.string tx, .int .i64 n] 90; simpa using h)
 clear hC hE hk
 go_enter Tryz.func94, Tryz.ntmps94
 go_upto_region 1 with fail
 generalize (w.alloc (.cells #[.slice a L.length cap, .int .i64 lim, .int .i64 mode, .int .i64 A, .int .i64 B', .int .i64 C, .int .i64 D, .int .i64 coast, .int .i64 fr, .int .i64 u1, .int .i64 u2, .int .i64 u3, .int .i64 u4] 61)).alloc (.cells #[.string tx, .int .i64 n] 90) = W at *
 have hdl : w.heap.size < W.heap.size := (yy HD).lt
 have hxl : w.heap.size + 1 < W.heap.size := (yy HX).lt
 have HKS : Hid (∀ w' : World, Below W.heap.size W w' → (w'.cell? ⟨w.heap.size, 0, none⟩ = some (.slice a L.length cap) ∧ w'.cell? ⟨w.heap.size, 1, none⟩ = some (.int .i64 lim) ∧ w'.cell? ⟨w.heap.size, 2, none⟩ = some (.int .i64 mode) ∧ w'.cell? ⟨w.heap.size, 3, none⟩ = some (.int .i64 A) ∧ w'.cell? ⟨w.heap.size, 4, none⟩ = some (.int .i64 B') ∧ w'.cell? ⟨w.heap.size, 5, none⟩ = some (.int .i64 C) ∧ w'.cell? ⟨w.heap.size, 6, none⟩ = some (.int .i64 D) ∧ w'.cell? ⟨w.heap.size, 7, none⟩ = some (.int .i64 coast) ∧ w'.cell? ⟨w.heap.size, 8, none⟩ = some (.int .i64 fr) ∧ w'.cell? ⟨w.heap.size, 9, none⟩ = some (.int .i64 u1) ∧ w'.cell? ⟨w.heap.size, 10, none⟩ = some (.int .i64 u2) ∧ w'.cell? ⟨w.heap.size, 11, none⟩ = some (.int .i64 u3) ∧ w'.cell? ⟨w.heap.size, 12, none⟩ = some (.int .i64 u4)) ∧ w'.cell? ⟨w.heap.size + 1, 1, none⟩ = some (.int .i64 n)) := yz (fun w' h => ⟨⟨by rw [h.cell hdl]; exact (yy HD).cell 0 _ rfl, by rw [h.cell hdl]; exact (yy HD).cell 1 _ rfl, by rw [h.cell hdl]; exact (yy HD).cell 2 _ rfl, by rw [h.cell hdl]; exact (yy HD).cell 3 _ rfl, by rw [h.cell hdl]; exact (yy HD).cell 4 _ rfl, by rw [h.cell hdl]; exact (yy HD).cell 5 _ rfl, by rw [h.cell hdl]; exact (yy HD).cell 6 _ rfl, by rw [h.cell hdl]; exact (yy HD).cell 7 _ rfl, by rw [h.cell hdl]; exact (yy HD).cell 8 _ rfl, by rw [h.cell hdl]; exact (yy HD).cell 9 _ rfl, by rw [h.cell hdl]; exact (yy HD).cell 10 _ rfl, by rw [h.cell hdl]; exact (yy HD).cell 11 _ rfl, by rw [h.cell hdl]; exact (yy HD).cell 12 _ rfl⟩, by rw [h.cell hxl]; exact (yy HX).cell 1 _ rfl⟩)
 refine wp_region_held_drew (S := (fun w' => (w'.cell? ⟨w.heap.size, 0, none⟩ = some (.slice a L.length cap) ∧ w'.cell? ⟨w.heap.size, 1, none⟩ = some (.int .i64 lim) ∧ w'.cell? ⟨w.heap.size, 2, none⟩ = some (.int .i64 mode) ∧ w'.cell? ⟨w.heap.size, 3, none⟩ = some (.int .i64 A) ∧ w'.cell? ⟨w.heap.size, 4, none⟩ = some (.int .i64 B') ∧ w'.cell? ⟨w.heap.size, 5, none⟩ = some (.int .i64 C) ∧ w'.cell? ⟨w.heap.size, 6, none⟩ = some (.int .i64 D) ∧ w'.cell? ⟨w.heap.size, 7, none⟩ = some (.int .i64 coast) ∧ w'.cell? ⟨w.heap.size, 8, none⟩ = some (.int .i64 fr) ∧ w'.cell? ⟨w.heap.size, 9, none⟩ = some (.int .i64 u1) ∧ w'.cell? ⟨w.heap.size, 10, none⟩ = some (.int .i64 u2) ∧ w'.cell? ⟨w.heap.size, 11, none⟩ = some (.int .i64 u3) ∧ w'.cell? ⟨w.heap.size, 12, none⟩ = some (.int .i64 u4)) ∧ w'.cell? ⟨w.heap.size + 1, 1, none⟩ = some (.int .i64 n))) (by kernel_rfl) (yy HKS W (Below.refl _ _)) (fun hHeld => ?_)
 refine ac 0 rfl ?_
 try simp only [Act.put, ah, ai, aj]
 refine ac 1 rfl ?_
 try simp only [Act.put, ah, ai, aj]
 refine ac 2 rfl ?_
 try simp only [Act.put, ah, ai, aj]
 refine ac 3 rfl ?_
 try simp only [Act.put, ah, ai, aj]
 refine af 4 rfl fun K hK => ?_
 go_simp
 refine ((yy cS) W.drew hB2 ((yy HC).kept (Below.refl _ _).drew) ((yy HE).kept (Below.refl _ _).drew)).mono ?_
 rintro e V1 ⟨⟨v, rfl, hR⟩, hx⟩
 obtain ⟨aS, cS', rfl⟩ := gg hR
 have HV1 : Hid (Below W.heap.size W V1) := yz ((Below.refl W.heap.size W).drew.trans hx)
 have HR := yz hR
 have hcap : S.length ≤ cS' ∧ cS' ≤ 9223372036854775807 := by
  rcases (dw hR).2 with h | h
  ·exact ⟨h.1, Nat.le_trans h.2 hmx⟩
  ·omega
 clear hx hR
 refine hK.out _ _ (yy HKS _ (yy HV1)) (fun hHeld1 => ?_)
 clear hK K hHeld
 refine af 5 rfl fun K hK => ?_
 go_simp
 refine ((yy cL) V1 S aS cS' (by omega) (Nat.le_trans hB2 (yy HV1).size) ((yy HC).kept (yy HV1)) ((yy HE).kept (yy HV1)) (dw (yy HR)).1 (fun y e => (dD (yy HR) y e).2) hcap.1 hcap.2).mono ?_
 rintro e V2 ⟨hA, hx⟩
 obtain ⟨v, rfl⟩ := hA.ret
 have HA := yz hA
 have HV2 := yz (ak (yy HV1) hx)
 clear hx hA
 refine hK.out _ _ (yy HKS _ (yy HV2)) (fun hHeld => ?_)
 clear hK K hHeld1
 refine af 6 rfl fun K hK => ?_
 go_simp
 refine hK.out _ _ (yy HKS _ (yy HV2)) (fun hHeld1 => ?_)
 clear hK K hHeld
 refine wpAnyH_done (by kernel_rfl) ?_ _
 clear hHeld1
 go_wp2_with fail
 go_ret
 exact ⟨yy HA, ak (yy HZ) (yy HV2)⟩
theorem pz (w : World) (B : Nat) (t : Tk) (u : U4) (a : Option Addr) (cap : Nat) (p : Addr) (tx : ByteArray) (n : Int) (hk : ax t = true) (hB : B ≤ w.heap.size) (hC : ay w B t.L a cap) (hE : fC p w) :
  Calls Tryz.prog 95 #[.agg #[.slice a t.L.length cap, .int .i64 t.lim, .int .i64 t.mode, .int .i64 t.A, .int .i64 t.B, .int .i64 t.C, .int .i64 t.D, .int .i64 t.coast, .int .i64 t.fr, .int .i64 u.1, .int .i64 u.2.1, .int .i64 u.2.2.1, .int .i64 u.2.2.2], .agg #[.string tx, .int .i64 n]] w fun e w' => Ans w' B (t, u) ((t, u), jf t) e ∧ Below w.heap.size w w' := by
 have hmo := (dF hk).2
 have HZ := yz (aH w (.cells #[.slice a t.L.length cap, .int .i64 t.lim, .int .i64 t.mode, .int .i64 t.A, .int .i64 t.B, .int .i64 t.C, .int .i64 t.D, .int .i64 t.coast, .int .i64 t.fr, .int .i64 u.1, .int .i64 u.2.1, .int .i64 u.2.2.1, .int .i64 u.2.2.2] 61) (.cells #[.string tx, .int .i64 n] 90))
 have hC0 := hC.kept (yy HZ)
 have hE0 := hE.kept (yy HZ)
 have HSB : Hid (jf t = if t.mode = 0 then ⟨#[48, 32, 45]⟩ else (ey t.mode.toNat ++ ⟨#[32]⟩) ++ eK t.A t.B t.C t.D) := yz rfl
 generalize jf t = R at *
 obtain ⟨u1, u2, u3, u4⟩ := u
 obtain ⟨L, lim, mode, A, B', C, D, coast, fr⟩ := t
 dsimp only at hmo HSB hC0 HZ hE0 ⊢
 obtain ⟨m, rfl⟩ := Int.eq_ofNat_of_zero_le hmo.1
 rw [Int.toNat_natCast] at HSB
 have HD := yz ((au w [.slice a L.length cap, .int .i64 lim, .int .i64 (m : Int), .int .i64 A, .int .i64 B', .int .i64 C, .int .i64 D, .int .i64 coast, .int .i64 fr, .int .i64 u1, .int .i64 u2, .int .i64 u3, .int .i64 u4] 61).alloc (.cells #[.string tx, .int .i64 n] 90))
 have cT := yz (gV A B' C D _ hE0.2)
 have hzt := lJ A B' C D
 have HC := yz hC0
 have HE := yz hE0
 have hzd := cu (n := m) (by omega)
 have cD := yz (fun (W : World) h => fd m W (by omega) h)
 have H0 : Hid (m = 0 → ey m = ⟨#[48]⟩) := yz (fun h => by rw [h]; rfl)
 generalize eK A B' C D = xt at *
 generalize ey m = xd at *
 clear hC hE hC0 hE0 hk
 have d2 := (yy HD).cell 2 _ rfl
 have d3 := (yy HD).cell 3 _ rfl
 have d4 := (yy HD).cell 4 _ rfl
 have d5 := (yy HD).cell 5 _ rfl
 have d6 := (yy HD).cell 6 _ rfl
 go_enter Tryz.func95, Tryz.ntmps95
 go_wp2_with fail
 refine (yy cT).mono ?_
 rintro e W1 ⟨rfl, hx⟩
 have HD1 := yz ((yy HD).kept hx)
 have HC1 := yz ((yy HC).kept hx)
 have HE1 := yz ((yy HE).kept hx)
 have HB1 := yz (ak (yy HZ) hx)
 clear hx d2 d3 d4 d5 d6 HD HC HE HZ
 have hdl : w.heap.size < W1.heap.size := (yy HD1).lt
 have d2 := (yy HD1).cell 2 _ rfl
 have HKS : Hid (∀ w' : World, Below W1.heap.size W1 w' → w'.cell? ⟨w.heap.size, 0, none⟩ = some (.slice a L.length cap) ∧ w'.cell? ⟨w.heap.size, 1, none⟩ = some (.int .i64 lim) ∧ w'.cell? ⟨w.heap.size, 2, none⟩ = some (.int .i64 (m : Int)) ∧ w'.cell? ⟨w.heap.size, 3, none⟩ = some (.int .i64 A) ∧ w'.cell? ⟨w.heap.size, 4, none⟩ = some (.int .i64 B') ∧ w'.cell? ⟨w.heap.size, 5, none⟩ = some (.int .i64 C) ∧ w'.cell? ⟨w.heap.size, 6, none⟩ = some (.int .i64 D) ∧ w'.cell? ⟨w.heap.size, 7, none⟩ = some (.int .i64 coast) ∧ w'.cell? ⟨w.heap.size, 8, none⟩ = some (.int .i64 fr) ∧ w'.cell? ⟨w.heap.size, 9, none⟩ = some (.int .i64 u1) ∧ w'.cell? ⟨w.heap.size, 10, none⟩ = some (.int .i64 u2) ∧ w'.cell? ⟨w.heap.size, 11, none⟩ = some (.int .i64 u3) ∧ w'.cell? ⟨w.heap.size, 12, none⟩ = some (.int .i64 u4)) := yz (fun w' h => ⟨by rw [h.cell hdl]; exact (yy HD1).cell 0 _ rfl, by rw [h.cell hdl]; exact (yy HD1).cell 1 _ rfl, by rw [h.cell hdl]; exact (yy HD1).cell 2 _ rfl, by rw [h.cell hdl]; exact (yy HD1).cell 3 _ rfl, by rw [h.cell hdl]; exact (yy HD1).cell 4 _ rfl, by rw [h.cell hdl]; exact (yy HD1).cell 5 _ rfl, by rw [h.cell hdl]; exact (yy HD1).cell 6 _ rfl, by rw [h.cell hdl]; exact (yy HD1).cell 7 _ rfl, by rw [h.cell hdl]; exact (yy HD1).cell 8 _ rfl, by rw [h.cell hdl]; exact (yy HD1).cell 9 _ rfl, by rw [h.cell hdl]; exact (yy HD1).cell 10 _ rfl, by rw [h.cell hdl]; exact (yy HD1).cell 11 _ rfl, by rw [h.cell hdl]; exact (yy HD1).cell 12 _ rfl⟩)
 by_cases hm : (m : Int) = 0
 ·rw [if_pos hm] at HSB
  have hxd := yz (yy H0 (by omega))
  have hm' : ((m : Int) == 0) = true := by simpa using hm
  clear hm
  go_upto_region 4 with fail
  clear d2
  refine wp_region_held_drew (S := (fun w' => w'.cell? ⟨w.heap.size, 0, none⟩ = some (.slice a L.length cap) ∧ w'.cell? ⟨w.heap.size, 1, none⟩ = some (.int .i64 lim) ∧ w'.cell? ⟨w.heap.size, 2, none⟩ = some (.int .i64 (m : Int)) ∧ w'.cell? ⟨w.heap.size, 3, none⟩ = some (.int .i64 A) ∧ w'.cell? ⟨w.heap.size, 4, none⟩ = some (.int .i64 B') ∧ w'.cell? ⟨w.heap.size, 5, none⟩ = some (.int .i64 C) ∧ w'.cell? ⟨w.heap.size, 6, none⟩ = some (.int .i64 D) ∧ w'.cell? ⟨w.heap.size, 7, none⟩ = some (.int .i64 coast) ∧ w'.cell? ⟨w.heap.size, 8, none⟩ = some (.int .i64 fr) ∧ w'.cell? ⟨w.heap.size, 9, none⟩ = some (.int .i64 u1) ∧ w'.cell? ⟨w.heap.size, 10, none⟩ = some (.int .i64 u2) ∧ w'.cell? ⟨w.heap.size, 11, none⟩ = some (.int .i64 u3) ∧ w'.cell? ⟨w.heap.size, 12, none⟩ = some (.int .i64 u4))) (by kernel_rfl) (yy HKS W1 (Below.refl _ _)) (fun hHeld => ?_)
  refine ac 0 rfl ?_
  try simp only [Act.put, ah, ai, aj]
  refine ac 1 rfl ?_
  try simp only [Act.put, ah, ai, aj]
  refine ac 2 rfl ?_
  try simp only [Act.put, ah, ai, aj]
  refine ac 3 rfl ?_
  try simp only [Act.put, ah, ai, aj]
  refine ac 5 rfl ?_
  try simp only [Act.put, ah, ai, aj]
  refine af 4 rfl fun K hK => ?_
  go_simp
  refine ((yy cD) W1.drew ((yy HE1).kept (Below.refl _ _).drew).2).mono ?_
  rintro e V ⟨rfl, hx⟩
  have HV : Hid (Below W1.heap.size W1 V) := yz ((Below.refl W1.heap.size W1).drew.trans hx)
  clear hx
  refine hK.out _ _ (yy HKS _ (yy HV)) (fun hHeld1 => ?_)
  clear hK K hHeld
  refine af 6 rfl fun K hK => ?_
  go_simp
  have HW5 : Hid (cy (V.alloc (.cells #[.string xd, .string ⟨#[45]⟩] 9)) V.heap.size [xd, ⟨#[45]⟩]) := yz (au V [.string xd, .string ⟨#[45]⟩] 9)
  have HV5 := yz (ak (yy HV) (an V (.cells #[.string xd, .string ⟨#[45]⟩] 9)))
  refine hK.out _ _ (yy HKS _ (yy HV5)) (fun hHeld2 => ?_)
  clear hK K hHeld1
  generalize V.alloc (.cells #[.string xd, .string ⟨#[45]⟩] 9) = W5 at *
  generalize V.heap.size = wb at *
  clear HV
  refine af 7 rfl fun K hK => ?_
  go_simp
  refine (bT a L.length cap lim (m : Int) A B' C D coast fr u1 u2 u3 u4 (some ⟨wb, 0, none⟩) 2 2 W5).mono ?_
  rintro e V6 ⟨rfl, hx⟩
  have HV6 := yz (ak (yy HV5) hx)
  have HA : Hid (Ans V6 B (⟨L, lim, (m : Int), A, B', C, D, coast, fr⟩, (u1, u2, u3, u4)) ((⟨L, lim, (m : Int), A, B', C, D, coast, fr⟩, (u1, u2, u3, u4)), R) (.returned (.iface 99 (.agg #[.slice a L.length cap, .int .i64 lim, .int .i64 (m : Int), .int .i64 A, .int .i64 B', .int .i64 C, .int .i64 D, .int .i64 coast, .int .i64 fr, .int .i64 u1, .int .i64 u2, .int .i64 u3, .int .i64 u4, .slice (some ⟨wb, 0, none⟩) 2 2])))) := yz (.inr ⟨a, cap, wb, [xd, ⟨#[45]⟩], rfl, (yy HC1).kept (yy HV6), (yy HW5).kept hx, by simp, (by intro x hx; rcases List.mem_cons.1 hx with rfl | hx; omega; rcases List.mem_cons.1 hx with rfl | hx; decide; cases hx), by rw [iX, yy hxd, yy HSB]; rfl⟩)
  clear hx
  refine hK.out _ _ (yy HKS _ (yy HV6)) (fun hHeld3 => ?_)
  clear hK K hHeld2
  refine af 8 rfl fun K hK => ?_
  go_simp
  refine hK.out _ _ (yy HKS _ (yy HV6)) (fun hHeld4 => ?_)
  clear hK K hHeld3
  refine wpAnyH_done (by kernel_rfl) ?_ _
  clear hHeld4
  go_wp2_with fail
  go_ret
  exact ⟨yy HA, ak (yy HB1) (yy HV6)⟩
 ·rw [if_neg hm] at HSB
  have hm' : ((m : Int) == 0) = false := by simpa using hm
  clear hm
  go_upto_region 4 with fail
  clear d2
  refine wp_region_held_drew (S := (fun w' => w'.cell? ⟨w.heap.size, 0, none⟩ = some (.slice a L.length cap) ∧ w'.cell? ⟨w.heap.size, 1, none⟩ = some (.int .i64 lim) ∧ w'.cell? ⟨w.heap.size, 2, none⟩ = some (.int .i64 (m : Int)) ∧ w'.cell? ⟨w.heap.size, 3, none⟩ = some (.int .i64 A) ∧ w'.cell? ⟨w.heap.size, 4, none⟩ = some (.int .i64 B') ∧ w'.cell? ⟨w.heap.size, 5, none⟩ = some (.int .i64 C) ∧ w'.cell? ⟨w.heap.size, 6, none⟩ = some (.int .i64 D) ∧ w'.cell? ⟨w.heap.size, 7, none⟩ = some (.int .i64 coast) ∧ w'.cell? ⟨w.heap.size, 8, none⟩ = some (.int .i64 fr) ∧ w'.cell? ⟨w.heap.size, 9, none⟩ = some (.int .i64 u1) ∧ w'.cell? ⟨w.heap.size, 10, none⟩ = some (.int .i64 u2) ∧ w'.cell? ⟨w.heap.size, 11, none⟩ = some (.int .i64 u3) ∧ w'.cell? ⟨w.heap.size, 12, none⟩ = some (.int .i64 u4))) (by kernel_rfl) (yy HKS W1 (Below.refl _ _)) (fun hHeld => ?_)
  refine ac 0 rfl ?_
  try simp only [Act.put, ah, ai, aj]
  refine ac 1 rfl ?_
  try simp only [Act.put, ah, ai, aj]
  refine ac 2 rfl ?_
  try simp only [Act.put, ah, ai, aj]
  refine ac 3 rfl ?_
  try simp only [Act.put, ah, ai, aj]
  refine ac 5 rfl ?_
  try simp only [Act.put, ah, ai, aj]
  refine af 4 rfl fun K hK => ?_
  go_simp
  refine ((yy cD) W1.drew ((yy HE1).kept (Below.refl _ _).drew).2).mono ?_
  rintro e V ⟨rfl, hx⟩
  have HV : Hid (Below W1.heap.size W1 V) := yz ((Below.refl W1.heap.size W1).drew.trans hx)
  clear hx
  refine hK.out _ _ (yy HKS _ (yy HV)) (fun hHeld1 => ?_)
  clear hK K hHeld
  refine af 6 rfl fun K hK => ?_
  go_simp
  have HW5 : Hid (cy (V.alloc (.cells #[.string xd, .string xt] 9)) V.heap.size [xd, xt]) := yz (au V [.string xd, .string xt] 9)
  have HV5 := yz (ak (yy HV) (an V (.cells #[.string xd, .string xt] 9)))
  refine hK.out _ _ (yy HKS _ (yy HV5)) (fun hHeld2 => ?_)
  clear hK K hHeld1
  generalize V.alloc (.cells #[.string xd, .string xt] 9) = W5 at *
  generalize V.heap.size = wb at *
  clear HV
  refine af 7 rfl fun K hK => ?_
  go_simp
  refine (bT a L.length cap lim (m : Int) A B' C D coast fr u1 u2 u3 u4 (some ⟨wb, 0, none⟩) 2 2 W5).mono ?_
  rintro e V6 ⟨rfl, hx⟩
  have HV6 := yz (ak (yy HV5) hx)
  have HA : Hid (Ans V6 B (⟨L, lim, (m : Int), A, B', C, D, coast, fr⟩, (u1, u2, u3, u4)) ((⟨L, lim, (m : Int), A, B', C, D, coast, fr⟩, (u1, u2, u3, u4)), R) (.returned (.iface 99 (.agg #[.slice a L.length cap, .int .i64 lim, .int .i64 (m : Int), .int .i64 A, .int .i64 B', .int .i64 C, .int .i64 D, .int .i64 coast, .int .i64 fr, .int .i64 u1, .int .i64 u2, .int .i64 u3, .int .i64 u4, .slice (some ⟨wb, 0, none⟩) 2 2])))) := yz (.inr ⟨a, cap, wb, [xd, xt], rfl, (yy HC1).kept (yy HV6), (yy HW5).kept hx, by simp, (by intro x hx; rcases List.mem_cons.1 hx with rfl | hx; omega; rcases List.mem_cons.1 hx with rfl | hx; omega; cases hx), by rw [iX, yy HSB]⟩)
  clear hx
  refine hK.out _ _ (yy HKS _ (yy HV6)) (fun hHeld3 => ?_)
  clear hK K hHeld2
  refine af 8 rfl fun K hK => ?_
  go_simp
  refine hK.out _ _ (yy HKS _ (yy HV6)) (fun hHeld4 => ?_)
  clear hK K hHeld3
  refine wpAnyH_done (by kernel_rfl) ?_ _
  clear hHeld4
  go_wp2_with fail
  go_ret
  exact ⟨yy HA, ak (yy HB1) (yy HV6)⟩
def IdR (w : World) (aI : Option Addr) (I : List Int) : Prop := I = [] ∨ ∃ g, aI = some ⟨g, 0, none⟩ ∧ g < w.heap.size ∧ ∀ k, k < I.length → w.cell? ⟨g, k, none⟩ = some (.int .i64 (I.getD k 0))
theorem IdR.kept {w w' : World} {aI : Option Addr} {I : List Int} (h : IdR w aI I) (hB : Below w.heap.size w w') : IdR w' aI I := by
 rcases h with h | ⟨g, h1, h2, h3⟩
 ·exact .inl h
 ·exact .inr ⟨g, h1, Nat.lt_of_lt_of_le h2 hB.size, fun k hk => by rw [hB.cell (p := ⟨g, k, none⟩) h2]; exact h3 k hk⟩
theorem IdR.put3 {w : World} {aI : Option Addr} {I : List Int} (h : IdR w aI I) {yb : Nat} (hf : ∀ x, aI = some x → x.block ≠ yb) (x0 x1 x2 : Value) : IdR (((w.setCell ⟨yb, 0, none⟩ x0).setCell ⟨yb, 1, none⟩ x1).setCell ⟨yb, 2, none⟩ x2) aI I := by
 rcases h with h | ⟨g, h1, h2, h3⟩
 ·exact .inl h
 ·have hne : g ≠ yb := hf _ h1
  refine .inr ⟨g, h1, by simpa using h2, fun k hk => ?_⟩
  rw [World.cell?_setCell_far _ _ _ _ (Ne.symm hne), World.cell?_setCell_far _ _ _ _ (Ne.symm hne), World.cell?_setCell_far _ _ _ _ (Ne.symm hne)]
  exact h3 k hk
theorem pE {w' : World} {B : Nat} {I : List Int} {cnt code : Int} {e : Ending} (h : ux w' B I cnt code e) : ∃ aI cI, e = .returned (.agg #[.slice aI I.length cI, .int .i64 cnt, .int .i64 code]) ∧ IdR w' aI I ∧ ∀ x, aI = some x → B ≤ x.block ∧ x.block < w'.heap.size := by
 obtain ⟨v, rfl, h⟩ := h
 rcases h with ⟨h1, rfl⟩ | ⟨g, rfl, hB, hr⟩
 ·subst h1
  exact ⟨none, 0, rfl, .inl rfl, fun x e => by cases e⟩
 ·refine ⟨some ⟨g, 0, none⟩, I.length, rfl, .inr ⟨g, rfl, hr.lt, fun k hk => ?_⟩, fun x e => by cases e; exact ⟨hB, hr.lt⟩⟩
  exact hr.cell (j := k) (by omega)
theorem rJ {W : World} {xb : Nat} {t : TypeId} {v0 v1 v2 : Value} (h : Blk W xb [v0, v1, v2] t) (x0 x1 x2 : Value) : Blk (((W.setCell ⟨xb, 0, none⟩ x0).setCell ⟨xb, 1, none⟩ x1).setCell ⟨xb, 2, none⟩ x2) xb [x0, x1, x2] t := Blk.set (Blk.set (Blk.set h 0 x0) 1 x1) 2 x2
theorem eE {n : Nat} {w W : World} {xb : Nat} (h : Below n w W) (hx : n ≤ xb) (x0 x1 x2 : Value) : Below n w (((W.setCell ⟨xb, 0, none⟩ x0).setCell ⟨xb, 1, none⟩ x1).setCell ⟨xb, 2, none⟩ x2) := ((h.setCell hx _).setCell hx _).setCell hx _
def qj (W : World) (I : List Int) (cnt code : Int) (sv : Value) (wx : World) : Prop := ∃ yb aI cI, sv = .pointer (some ⟨yb, 0, none⟩) ∧ Blk wx yb [.slice aI I.length cI, .int .i64 cnt, .int .i64 code] 83 ∧ IdR wx aI I ∧ Below W.heap.size W wx
theorem fM {W V : World} {yb : Nat} {I : List Int} {cnt code : Int} {aI : Option Addr} {cI : Nat} {v0 v1 v2 : Value} (hY : Blk V yb [v0, v1, v2] 83) (hR : IdR V aI I) (hf : ∀ x, aI = some x → x.block ≠ yb) (hB : Below W.heap.size W V) (hb : W.heap.size ≤ yb) : qj W I cnt code (.pointer (some ⟨yb, 0, none⟩)) (((V.setCell ⟨yb, 0, none⟩ (.slice aI I.length cI)).setCell ⟨yb, 1, none⟩ (.int .i64 cnt)).setCell ⟨yb, 2, none⟩ (.int .i64 code)) :=
 ⟨yb, aI, cI, rfl, rJ hY _ _ _, hR.put3 hf _ _ _, eE hB hb _ _ _⟩
theorem rr (xs : List ByteArray) (B : Nat) (v : Value) (sep : ByteArray) (w : World) (h : w.ownsRow B 9 1 v xs.length (xs.map .string)) (hs : sep.size ≤ 10) (hm : ∀ x ∈ xs, x.size ≤ 1000) (hl : xs.length ≤ 400) :
  Calls Tryz.prog 119 #[v, .string sep] w fun e w' => e = .returned (.string (dc xs sep)) ∧ Below w.heap.size w w' := by
 rcases h.2 with ⟨rfl, h0⟩ | ⟨g, cap, cur, rfl, hb, hg, h1, h2, h3, h4⟩
 ·obtain rfl : xs = [] := List.length_eq_zero_iff.1 h0
  exact (strings_Join_none none 0 sep w).mono fun e w' ⟨he, hw⟩ => ⟨by rw [he]; rfl, by rw [hw]; exact Below.refl _ _⟩
 ·refine strings_Join g 0 cap xs sep w (fun j x hj => ?_) (Array.getElem?_eq_some_iff.1 hg).1 (by omega) h1 ?_
  ·rw [Nat.zero_add, cell_of_row w g j cur _ _ hg]
   have hjl : j < xs.length := (List.getElem?_eq_some_iff.1 hj).1
   have e : (xs.map Value.string)[j]? = some (.string x) := by rw [List.getElem?_map, hj]; rfl
   rw [← h4, List.getElem?_take, if_pos (by omega)] at e
   simpa using e
  ·have h5 := mc xs sep 1000 400 hm hl
   have h6 : (sep.size + 1000) * 400 ≤ 1010 * 400 := Nat.mul_le_mul_right _ (by omega)
   omega
theorem tB (w : World) (B : Nat) (t : Tk) (u : U4) (a : Option Addr) (cap : Nat) (p : Addr) (tx : ByteArray) (n : Int) (hk : ax t = true) (hB : B ≤ w.heap.size) (hC : ay w B t.L a cap) (hE : fC p w) :
  Calls Tryz.prog 91 #[.agg #[.slice a t.L.length cap, .int .i64 t.lim, .int .i64 t.mode, .int .i64 t.A, .int .i64 t.B, .int .i64 t.C, .int .i64 t.D, .int .i64 t.coast, .int .i64 t.fr, .int .i64 u.1, .int .i64 u.2.1, .int .i64 u.2.2.1, .int .i64 u.2.2.2], .agg #[.string tx, .int .i64 n]] w fun e w' => Ans w' B (t, u) ((t, u), rz t u n) e ∧ Below w.heap.size w w' := by
 obtain ⟨i0, hinf, hz0, hz1, hz2⟩ := rd
 have hm8 : 400 ≤ maxLen := by decide +kernel
 have hmx : maxLen ≤ 9223372036854775807 := by decide +kernel
 have hn : t.L.length ≤ 1048576 := Nat.le_trans (dF hk).1 (by decide)
 have hcp := du hC
 have HZ := yz (aH w (.cells #[.slice a t.L.length cap, .int .i64 t.lim, .int .i64 t.mode, .int .i64 t.A, .int .i64 t.B, .int .i64 t.C, .int .i64 t.D, .int .i64 t.coast, .int .i64 t.fr, .int .i64 u.1, .int .i64 u.2.1, .int .i64 u.2.2.1, .int .i64 u.2.2.2] 61) (.cells #[.string tx, .int .i64 n] 90))
 have hC0 := hC.kept (yy HZ)
 have hE0 := hE.kept (yy HZ)
 have hB2 := Nat.le_trans hB (yy HZ).size
 have HSB : Hid (rz t u n = if bg t.L (bc t.L u.1 u.2.1 u.2.2.1 u.2.2.2 n) = 0 then jE (aV t.L (bc t.L u.1 u.2.1 u.2.2.1 u.2.2.2 n)) (aV t.L (bc t.L u.1 u.2.1 u.2.2.1 u.2.2.2 n)).length else ew (bg t.L (bc t.L u.1 u.2.1 u.2.2.1 u.2.2.2 n)).toNat) := yz rfl
 generalize rz t u n = R at *
 have hs6 := gC t.L u.1 u.2.1 u.2.2.1 u.2.2.2 n
 have hks := jj t.L (bc t.L u.1 u.2.1 u.2.2.1 u.2.2.2 n)
 obtain ⟨hil, his⟩ := gR t.L (bc t.L u.1 u.2.1 u.2.2.1 u.2.2.2 n)
 have HIS := yz his
 have HJI := yz (fun k hk' => ma (aV t.L (bc t.L u.1 u.2.1 u.2.2.1 u.2.2.2 n)) (fun x hx => (his x hx).1) k hk')
 clear his
 have cS := yz (fun (W : World) hB' h1 h2 => kX W B t u a cap p n hk hB' h1 h2)
 have cI := yz (fun (W : World) br dr => gZ t.L (bc t.L u.1 u.2.1 u.2.2.1 u.2.2.2 n) a br cap dr p W hn (by omega) hcp.1 (by omega))
 generalize bc t.L u.1 u.2.1 u.2.2.1 u.2.2.2 n = S at *
 obtain ⟨u1, u2, u3, u4⟩ := u
 obtain ⟨L, lim, mode, A, B', C, D, coast, fr⟩ := t
 dsimp only at hn hC0 HZ hE0 hB2 HSB hil hks HIS HJI cI cS ⊢
 generalize aV L S = I at *
 generalize dl L S = cnt at *
 generalize bg L S = code at *
 have HD := yz ((au w [.slice a L.length cap, .int .i64 lim, .int .i64 mode, .int .i64 A, .int .i64 B', .int .i64 C, .int .i64 D, .int .i64 coast, .int .i64 fr, .int .i64 u1, .int .i64 u2, .int .i64 u3, .int .i64 u4] 61).alloc (.cells #[.string tx, .int .i64 n] 90))
 have HX : Hid (Blk ((w.alloc (.cells #[.slice a L.length cap, .int .i64 lim, .int .i64 mode, .int .i64 A, .int .i64 B', .int .i64 C, .int .i64 D, .int .i64 coast, .int .i64 fr, .int .i64 u1, .int .i64 u2, .int .i64 u3, .int .i64 u4] 61)).alloc (.cells #[.string tx, .int .i64 n] 90)) (w.heap.size + 1) [.string tx, .int .i64 n] 90) := yz (by have h := au (w.alloc (.cells #[.slice a L.length cap, .int .i64 lim, .int .i64 mode, .int .i64 A, .int .i64 B', .int .i64 C, .int .i64 D, .int .i64 coast, .int .i64 fr, .int .i64 u1, .int .i64 u2, .int .i64 u3, .int .i64 u4] 61)) [.string tx, .int .i64 n] 90; simpa using h)
 have HC := yz hC0
 have HE := yz hE0
 clear hC hE hC0 hE0 hk
 go_enter Tryz.func91, Tryz.ntmps91
 go_upto_region 1 with fail
 generalize (w.alloc (.cells #[.slice a L.length cap, .int .i64 lim, .int .i64 mode, .int .i64 A, .int .i64 B', .int .i64 C, .int .i64 D, .int .i64 coast, .int .i64 fr, .int .i64 u1, .int .i64 u2, .int .i64 u3, .int .i64 u4] 61)).alloc (.cells #[.string tx, .int .i64 n] 90) = W at *
 have hdl : w.heap.size < W.heap.size := (yy HD).lt
 have hxl : w.heap.size + 1 < W.heap.size := (yy HX).lt
 have HKS : Hid (∀ w' : World, Below W.heap.size W w' → (w'.cell? ⟨w.heap.size, 0, none⟩ = some (.slice a L.length cap) ∧ w'.cell? ⟨w.heap.size, 1, none⟩ = some (.int .i64 lim) ∧ w'.cell? ⟨w.heap.size, 2, none⟩ = some (.int .i64 mode) ∧ w'.cell? ⟨w.heap.size, 3, none⟩ = some (.int .i64 A) ∧ w'.cell? ⟨w.heap.size, 4, none⟩ = some (.int .i64 B') ∧ w'.cell? ⟨w.heap.size, 5, none⟩ = some (.int .i64 C) ∧ w'.cell? ⟨w.heap.size, 6, none⟩ = some (.int .i64 D) ∧ w'.cell? ⟨w.heap.size, 7, none⟩ = some (.int .i64 coast) ∧ w'.cell? ⟨w.heap.size, 8, none⟩ = some (.int .i64 fr) ∧ w'.cell? ⟨w.heap.size, 9, none⟩ = some (.int .i64 u1) ∧ w'.cell? ⟨w.heap.size, 10, none⟩ = some (.int .i64 u2) ∧ w'.cell? ⟨w.heap.size, 11, none⟩ = some (.int .i64 u3) ∧ w'.cell? ⟨w.heap.size, 12, none⟩ = some (.int .i64 u4)) ∧ w'.cell? ⟨w.heap.size + 1, 1, none⟩ = some (.int .i64 n)) := yz (fun w' h => ⟨⟨by rw [h.cell hdl]; exact (yy HD).cell 0 _ rfl, by rw [h.cell hdl]; exact (yy HD).cell 1 _ rfl, by rw [h.cell hdl]; exact (yy HD).cell 2 _ rfl, by rw [h.cell hdl]; exact (yy HD).cell 3 _ rfl, by rw [h.cell hdl]; exact (yy HD).cell 4 _ rfl, by rw [h.cell hdl]; exact (yy HD).cell 5 _ rfl, by rw [h.cell hdl]; exact (yy HD).cell 6 _ rfl, by rw [h.cell hdl]; exact (yy HD).cell 7 _ rfl, by rw [h.cell hdl]; exact (yy HD).cell 8 _ rfl, by rw [h.cell hdl]; exact (yy HD).cell 9 _ rfl, by rw [h.cell hdl]; exact (yy HD).cell 10 _ rfl, by rw [h.cell hdl]; exact (yy HD).cell 11 _ rfl, by rw [h.cell hdl]; exact (yy HD).cell 12 _ rfl⟩, by rw [h.cell hxl]; exact (yy HX).cell 1 _ rfl⟩)
 go_cut [5] (fun sv wx => qj W I cnt code sv wx)
 case first =>
  refine wp_region_held_drew (S := (fun w' => (w'.cell? ⟨w.heap.size, 0, none⟩ = some (.slice a L.length cap) ∧ w'.cell? ⟨w.heap.size, 1, none⟩ = some (.int .i64 lim) ∧ w'.cell? ⟨w.heap.size, 2, none⟩ = some (.int .i64 mode) ∧ w'.cell? ⟨w.heap.size, 3, none⟩ = some (.int .i64 A) ∧ w'.cell? ⟨w.heap.size, 4, none⟩ = some (.int .i64 B') ∧ w'.cell? ⟨w.heap.size, 5, none⟩ = some (.int .i64 C) ∧ w'.cell? ⟨w.heap.size, 6, none⟩ = some (.int .i64 D) ∧ w'.cell? ⟨w.heap.size, 7, none⟩ = some (.int .i64 coast) ∧ w'.cell? ⟨w.heap.size, 8, none⟩ = some (.int .i64 fr) ∧ w'.cell? ⟨w.heap.size, 9, none⟩ = some (.int .i64 u1) ∧ w'.cell? ⟨w.heap.size, 10, none⟩ = some (.int .i64 u2) ∧ w'.cell? ⟨w.heap.size, 11, none⟩ = some (.int .i64 u3) ∧ w'.cell? ⟨w.heap.size, 12, none⟩ = some (.int .i64 u4)) ∧ w'.cell? ⟨w.heap.size + 1, 1, none⟩ = some (.int .i64 n))) (by kernel_rfl) (yy HKS W (Below.refl _ _)) (fun hHeld => ?_)
  refine ac 0 rfl ?_
  try simp only [Act.put, ah, ai, aj]
  refine ac 1 rfl ?_
  try simp only [Act.put, ah, ai, aj]
  refine ac 2 rfl ?_
  try simp only [Act.put, ah, ai, aj]
  refine ac 3 rfl ?_
  try simp only [Act.put, ah, ai, aj]
  refine ac 4 rfl ?_
  try simp only [Act.put, ah, ai, aj]
  refine ac 5 rfl ?_
  try simp only [Act.put, ah, ai, aj]
  refine ag 6 8 rfl (fun K hK => ?_) rfl fun K hK => ?_
  ·skip
   go_simp
   refine ((yy cS) W.drew hB2 ((yy HC).kept (Below.refl _ _).drew) ((yy HE).kept (Below.refl _ _).drew)).mono ?_
   rintro e V1 ⟨⟨vS, rfl, hR⟩, hx⟩
   obtain ⟨aS, cpS, rfl⟩ := gg hR
   have HR := yz hR
   have HV : Hid (Below W.heap.size W V1) := yz ((Below.refl W.heap.size W).drew.trans hx)
   have hcap : S.length ≤ cpS ∧ cpS ≤ 9223372036854775807 := by
    rcases (dw hR).2 with h | h
    ·exact ⟨h.1, Nat.le_trans h.2 hmx⟩
    ·omega
   clear hx hR
   refine hK.out _ _ (yy HKS _ (yy HV)) (fun hHeld1 => ?_)
   clear hK K hHeld
   refine ag 7 8 rfl (fun K hK => ?_) rfl fun K hK => ?_
   ·skip
    go_simp
    refine ((yy cI) V1 aS cpS hcap.1 hcap.2 ((yy HC).kept (yy HV)).stars (dw (yy HR)).1 (ii ((yy HC).kept (yy HV))) (fun y e => (dD (yy HR) y e).2) ((yy HE).kept (yy HV)).1).mono ?_
    rintro e V2 ⟨hO, hx⟩
    obtain ⟨aI, cpI, rfl, hI, hfar⟩ := pE hO
    have HV1 := yz (ak (yy HV) hx)
    have HI1 := yz hI
    have hfar2 := fun x e => (hfar x e).2
    clear hx hI HV hO hfar
    have HV := HV1
    refine hK.out _ _ (yy HKS _ (yy HV)) (fun hHeld => ?_)
    clear hK K hHeld1
    refine af 8 rfl fun K hK => ?_
    go_simp
    have HY := yz (au V2 [.slice none 0 0, .int .i64 0, .int .i64 0] 83)
    have HI := yz ((yy HI1).kept (an V2 (.cells #[.slice none 0 0, .int .i64 0, .int .i64 0] 83)))
    have HF : Hid (∀ x, aI = some x → x.block ≠ V2.heap.size) := yz (fun x e => Nat.ne_of_lt (hfar2 x e))
    have hyb : W.heap.size ≤ V2.heap.size := (yy HV).size
    replace HV := yz (ak (yy HV) (an V2 (.cells #[.slice none 0 0, .int .i64 0, .int .i64 0] 83)))
    clear hfar2
    generalize V2.alloc (.cells #[.slice none 0 0, .int .i64 0, .int .i64 0] 83) = V3 at *
    generalize V2.heap.size = yb at *
    refine hK.out _ _ (yy HKS _ (yy HV)) (fun hHeld1 => ?_)
    clear hK K hHeld
    obtain ⟨y0, y1, y2⟩ := jD (yy HY)
    obtain ⟨z0, z1, z2⟩ := vU (yy HY)
    refine af 9 rfl fun K hK => ?_
    go_simp
    have HCUT := yz (fM (cI := cpI) (cnt := cnt) (code := code) (yy HY) (yy HI) (yy HF) (yy HV) hyb)
    refine hK.out _ _ (yy HKS _ (eE (yy HV) hyb _ _ _)) (fun hHeldE => ?_)
    clear hK K y0 y1 y2 z0 z1 z2
    refine wpAnyH_done (by kernel_rfl) ?_ _
    clear hHeldE
    go_wp2_with fail
    go_meet
    exact yy HCUT
   ·skip
    go_simp
    have HY1 := yz (au V1 [.slice none 0 0, .int .i64 0, .int .i64 0] 83)
    have hyb : W.heap.size ≤ V1.heap.size := (yy HV).size
    replace HR := yz (bF (yy HR) (an V1 (.cells #[.slice none 0 0, .int .i64 0, .int .i64 0] 83)))
    replace HV := yz (ak (yy HV) (an V1 (.cells #[.slice none 0 0, .int .i64 0, .int .i64 0] 83)))
    refine hK.out _ _ (yy HKS _ (yy HV)) (fun hHeld => ?_)
    clear hK K hHeld1
    refine af 7 rfl fun K hK => ?_
    go_simp
    refine ((yy cI) _ aS cpS hcap.1 hcap.2 ((yy HC).kept (yy HV)).stars (dw (yy HR)).1 (ii ((yy HC).kept (yy HV))) (fun y e => (dD (yy HR) y e).2) ((yy HE).kept (yy HV)).1).mono ?_
    rintro e V2 ⟨hO, hx⟩
    obtain ⟨aI, cpI, rfl, hI, hfar⟩ := pE hO
    have HY := yz ((yy HY1).kept hx)
    have hylt := (yy HY1).lt
    have HF : Hid (∀ x, aI = some x → x.block ≠ V1.heap.size) := yz (fun x e => by have := (hfar x e).1; omega)
    have HI := yz hI
    replace HV := yz (ak (yy HV) hx)
    clear hx hI hO hfar
    refine hK.out _ _ (yy HKS _ (yy HV)) (fun hHeld1 => ?_)
    clear hK K hHeld
    obtain ⟨y0, y1, y2⟩ := jD (yy HY)
    obtain ⟨z0, z1, z2⟩ := vU (yy HY)
    refine af 9 rfl fun K hK => ?_
    go_simp
    have HCUT := yz (fM (cI := cpI) (cnt := cnt) (code := code) (yy HY) (yy HI) (yy HF) (yy HV) hyb)
    refine hK.out _ _ (yy HKS _ (eE (yy HV) hyb _ _ _)) (fun hHeldE => ?_)
    clear hK K y0 y1 y2 z0 z1 z2
    refine wpAnyH_done (by kernel_rfl) ?_ _
    clear hHeldE
    go_wp2_with fail
    go_meet
    exact yy HCUT
  ·skip
   go_simp
   have HY0 : Hid (Blk (W.drew.alloc (.cells #[.slice none 0 0, .int .i64 0, .int .i64 0] 83)) W.heap.size [.slice none 0 0, .int .i64 0, .int .i64 0] 83) := yz (au W.drew [.slice none 0 0, .int .i64 0, .int .i64 0] 83)
   have HV0 : Hid (Below W.heap.size W (W.drew.alloc (.cells #[.slice none 0 0, .int .i64 0, .int .i64 0] 83))) := yz ((Below.refl W.heap.size W).drew.trans (an W.drew (.cells #[.slice none 0 0, .int .i64 0, .int .i64 0] 83)))
   refine hK.out _ _ (yy HKS _ (yy HV0)) (fun hHeld1 => ?_)
   clear hK K hHeld
   refine af 6 rfl fun K hK => ?_
   go_simp
   refine ((yy cS) _ (Nat.le_trans hB2 (yy HV0).size) ((yy HC).kept (yy HV0)) ((yy HE).kept (yy HV0))).mono ?_
   rintro e V1 ⟨⟨vS, rfl, hR⟩, hx⟩
   obtain ⟨aS, cpS, rfl⟩ := gg hR
   have HR := yz hR
   have HV : Hid (Below W.heap.size W V1) := yz (ak (yy HV0) hx)
   have hcap : S.length ≤ cpS ∧ cpS ≤ 9223372036854775807 := by
    rcases (dw hR).2 with h | h
    ·exact ⟨h.1, Nat.le_trans h.2 hmx⟩
    ·omega
   have HY1 := yz ((yy HY0).kept hx)
   clear hx hR
   refine hK.out _ _ (yy HKS _ (yy HV)) (fun hHeld => ?_)
   clear hK K hHeld1
   refine af 7 rfl fun K hK => ?_
   go_simp
   refine ((yy cI) V1 aS cpS hcap.1 hcap.2 ((yy HC).kept (yy HV)).stars (dw (yy HR)).1 (ii ((yy HC).kept (yy HV))) (fun y e => (dD (yy HR) y e).2) ((yy HE).kept (yy HV)).1).mono ?_
   rintro e V2 ⟨hO, hx⟩
   obtain ⟨aI, cpI, rfl, hI, hfar⟩ := pE hO
   have HY := yz ((yy HY1).kept hx)
   have hylt := (yy HY1).lt
   have HF : Hid (∀ x, aI = some x → x.block ≠ W.heap.size) := yz (fun x e => by have := (hfar x e).1; omega)
   have HI := yz hI
   replace HV := yz (ak (yy HV) hx)
   clear hx hI hO hfar
   refine hK.out _ _ (yy HKS _ (yy HV)) (fun hHeld1 => ?_)
   clear hK K hHeld
   obtain ⟨y0, y1, y2⟩ := jD (yy HY)
   obtain ⟨z0, z1, z2⟩ := vU (yy HY)
   refine af 9 rfl fun K hK => ?_
   go_simp
   have HCUT := yz (fM (cI := cpI) (cnt := cnt) (code := code) (yy HY) (yy HI) (yy HF) (yy HV) (Nat.le_refl _))
   refine hK.out _ _ (yy HKS _ (eE (yy HV) (Nat.le_refl _) _ _ _)) (fun hHeldE => ?_)
   clear hK K y0 y1 y2 z0 z1 z2
   refine wpAnyH_done (by kernel_rfl) ?_ _
   clear hHeldE
   go_wp2_with fail
   go_meet
   exact yy HCUT
 case rest =>
 obtain ⟨yb, aI, cpI, rfl, hY, hI, hBc⟩ := hcut
 have HY := yz hY
 have HI := yz hI
 have HBC := yz hBc
 have HDc := yz ((yy HD).kept hBc)
 have HCc := yz ((yy HC).kept hBc)
 have HEc := yz ((yy HE).kept hBc)
 have hyl : yb < wc.heap.size := hY.lt
 have hdc : w.heap.size < wc.heap.size := (yy HDc).lt
 have y0 := hY.cell 0 _ rfl
 clear hY hI hBc HKS cS cI HD HC HE
 have hI6 : I.length ≤ 6 := by omega
 have HO : Hid (wc.ownsRow wc.heap.size 9 1 (.slice none 0 0) ((I.take 0).map aZ).length (((I.take 0).map aZ).map .string)) := yz (World.ownsRow_nil _ _ _ _)
 go_wp2_with fail
 go_loopw [6, 20] (fun v kk wr => ∃ k : Nat, k ≤ I.length ∧ kk = .int .i64 k ∧ Hid (wr.ownsRow wc.heap.size 9 1 v ((I.take k).map aZ).length (((I.take k).map aZ).map .string)) ∧ Hid (Below wc.heap.size wc wr)) (fun _ kk _ => I.length - (intOf kk).toNat)
 case atStart => exact ⟨0, Nat.zero_le _, rfl, HO, yz (Below.refl _ _)⟩
 case round =>
  clear HO
  obtain ⟨k, hk', rfl, HO, HW⟩ := hrel
  by_cases hkn : k < I.length
  ·have hkn2 : (k : Int) < (I.length : Int) := by omega
   obtain ⟨g, rfl, hg2, ci⟩ : ∃ g, aI = some ⟨g, 0, none⟩ ∧ g < wc.heap.size ∧ wc.cell? ⟨g, k, none⟩ = some (.int .i64 (I.getD k 0)) := by
    rcases yy HI with h | ⟨g, h1, h2, h3⟩
    ·rw [h] at hkn; simp at hkn
    ·exact ⟨g, h1, h2, h3 k hkn⟩
   have ci' : wr.cell? ⟨g, k, none⟩ = some (.int .i64 (I.getD k 0)) := by rw [(yy HW).cell (p := ⟨g, k, none⟩) hg2]; exact ci
   have hmem : I.getD k 0 ∈ I := by rw [List.getD_eq_getElem?_getD, List.getElem?_eq_getElem hkn]; exact List.getElem_mem hkn
   have hid := yy HIS _ hmem
   have HSN : Hid ((I.take (k + 1)).map aZ = (I.take k).map aZ ++ [aZ (I.getD k 0)]) := yz (by
    rw [List.take_succ_eq_append_getElem hkn, List.map_append, List.getD_eq_getElem?_getD, List.getElem?_eq_getElem hkn]; rfl)
   clear hmem ci
   generalize I.getD k 0 = id at *
   obtain ⟨m, rfl⟩ := Int.eq_ofNat_of_zero_le hid.1
   rw [ij] at HSN
   obtain ⟨PR, HPR⟩ : ∃ PR, Hid ((I.take k).map aZ = PR) := ⟨_, yz rfl⟩
   have hpl : PR.length ≤ 6 := by rw [← yy HPR, List.length_map, List.length_take]; omega
   rw [yy HPR] at HO HSN
   have cD := yz (fun (W : World) h => fd m W (by omega) h)
   generalize ey m = xd at *
   go_wp2_with fail
   refine ((yy cD) wr ((yy HEc).kept (yy HW)).2).mono ?_
   rintro e V1 ⟨rfl, hx⟩
   have hy := an V1 (.cells #[.string xd] 9)
   have HW1 := yz (ak (ak (yy HW) hx) hy)
   have hown := bF (bF (yy HO) hx) hy
   have hs3 := (yy HW1).size
   clear hx hy HO ci'
   go_wp2_with (at_builtin; refine wpList_append_own _ rfl _ _ 27 rfl wc.heap.size 9 i0 (.string ⟨#[]⟩) 1 16 Tryz.underlying27 hinf hz0 hz1 hz2 rfl (by decide) _ _ _ rfl hown ⟨V1.heap.size, 0, none⟩ 1 1 [.string xd] rfl rfl ?d2 (fun u hu => by rw [List.mem_singleton] at hu; subst hu; rfl) ?d3 ?d4 ?d5 ?_)
   case d2 => exact iM _ _ _
   case d3 => omega
   case d4 => omega
   case d5 => exact hs3
   intro v7 V7 hown7 hgrow7 _
   have HW7 := yz (oN (yy HW1) hgrow7 hs3 (fun q e => (hown.lt q e).1))
   have HO7 : Hid (V7.ownsRow wc.heap.size 9 1 v7 ((I.take (k + 1)).map aZ).length (((I.take (k + 1)).map aZ).map .string)) := yz (by rw [yy HSN, List.map_append, List.length_append]; exact hown7)
   clear hown7 hgrow7 hown HW1
   go_wp2_with fail
   go_roundw
   case rel => exact ⟨k + 1, hkn, by go_num, HO7, HW7⟩
   case measure => simp [intOf] <;> omega
  ·have hke : k = I.length := by omega
   subst hke
   have HJ := yz (yy HJI I.length (Nat.le_refl _))
   have HSM : Hid (∀ x ∈ (I.take I.length).map aZ, x.size ≤ 1000) := yz (fun x hx => by
    obtain ⟨z, hz, rfl⟩ := List.mem_map.1 hx
    have h2 := yy HIS z (List.mem_of_mem_take hz)
    obtain ⟨m, rfl⟩ := Int.eq_ofNat_of_zero_le h2.1
    rw [ij]
    have := cu (n := m) (by omega)
    omega)
   have HLN : Hid (((I.take I.length).map aZ).length ≤ 400) := yz (by rw [List.length_map, List.length_take]; omega)
   have hjs : (jE I I.length).size ≤ 1000 := by have := iO (ids := I) (yy HIS) I.length; omega
   generalize (I.take I.length).map aZ = PR at *
   have cJ := yz (fun (W : World) h => rr PR wc.heap.size u6 ⟨#[44]⟩ W h (by decide) (yy HSM) (yy HLN))
   rw [yy HJ] at cJ
   generalize jE I I.length = xj at *
   have HDr := yz ((yy HDc).kept (yy HW))
   have HYr := yz ((yy HY).kept (yy HW))
   have HCr := yz ((yy HCc).kept (yy HW))
   have hdr : w.heap.size < wr.heap.size := (yy HDr).lt
   have hyr : yb < wr.heap.size := (yy HYr).lt
   have HKS : Hid (∀ w' : World, Below wr.heap.size wr w' → (w'.cell? ⟨w.heap.size, 0, none⟩ = some (.slice a L.length cap) ∧ w'.cell? ⟨w.heap.size, 1, none⟩ = some (.int .i64 lim) ∧ w'.cell? ⟨w.heap.size, 2, none⟩ = some (.int .i64 mode) ∧ w'.cell? ⟨w.heap.size, 3, none⟩ = some (.int .i64 A) ∧ w'.cell? ⟨w.heap.size, 4, none⟩ = some (.int .i64 B') ∧ w'.cell? ⟨w.heap.size, 5, none⟩ = some (.int .i64 C) ∧ w'.cell? ⟨w.heap.size, 6, none⟩ = some (.int .i64 D) ∧ w'.cell? ⟨w.heap.size, 7, none⟩ = some (.int .i64 coast) ∧ w'.cell? ⟨w.heap.size, 8, none⟩ = some (.int .i64 fr) ∧ w'.cell? ⟨w.heap.size, 9, none⟩ = some (.int .i64 u1) ∧ w'.cell? ⟨w.heap.size, 10, none⟩ = some (.int .i64 u2) ∧ w'.cell? ⟨w.heap.size, 11, none⟩ = some (.int .i64 u3) ∧ w'.cell? ⟨w.heap.size, 12, none⟩ = some (.int .i64 u4)) ∧ w'.cell? ⟨yb, 2, none⟩ = some (.int .i64 code)) := yz (fun w' h => ⟨⟨by rw [h.cell hdr]; exact (yy HDr).cell 0 _ rfl, by rw [h.cell hdr]; exact (yy HDr).cell 1 _ rfl, by rw [h.cell hdr]; exact (yy HDr).cell 2 _ rfl, by rw [h.cell hdr]; exact (yy HDr).cell 3 _ rfl, by rw [h.cell hdr]; exact (yy HDr).cell 4 _ rfl, by rw [h.cell hdr]; exact (yy HDr).cell 5 _ rfl, by rw [h.cell hdr]; exact (yy HDr).cell 6 _ rfl, by rw [h.cell hdr]; exact (yy HDr).cell 7 _ rfl, by rw [h.cell hdr]; exact (yy HDr).cell 8 _ rfl, by rw [h.cell hdr]; exact (yy HDr).cell 9 _ rfl, by rw [h.cell hdr]; exact (yy HDr).cell 10 _ rfl, by rw [h.cell hdr]; exact (yy HDr).cell 11 _ rfl, by rw [h.cell hdr]; exact (yy HDr).cell 12 _ rfl⟩, by rw [h.cell hyr]; exact (yy HYr).cell 2 _ rfl⟩)
   go_upto_region 8 with fail
   by_cases hc : code = 0
   ·subst hc
    rw [if_pos rfl] at HSB
    refine wp_region_held_drew (S := (fun w' => (w'.cell? ⟨w.heap.size, 0, none⟩ = some (.slice a L.length cap) ∧ w'.cell? ⟨w.heap.size, 1, none⟩ = some (.int .i64 lim) ∧ w'.cell? ⟨w.heap.size, 2, none⟩ = some (.int .i64 mode) ∧ w'.cell? ⟨w.heap.size, 3, none⟩ = some (.int .i64 A) ∧ w'.cell? ⟨w.heap.size, 4, none⟩ = some (.int .i64 B') ∧ w'.cell? ⟨w.heap.size, 5, none⟩ = some (.int .i64 C) ∧ w'.cell? ⟨w.heap.size, 6, none⟩ = some (.int .i64 D) ∧ w'.cell? ⟨w.heap.size, 7, none⟩ = some (.int .i64 coast) ∧ w'.cell? ⟨w.heap.size, 8, none⟩ = some (.int .i64 fr) ∧ w'.cell? ⟨w.heap.size, 9, none⟩ = some (.int .i64 u1) ∧ w'.cell? ⟨w.heap.size, 10, none⟩ = some (.int .i64 u2) ∧ w'.cell? ⟨w.heap.size, 11, none⟩ = some (.int .i64 u3) ∧ w'.cell? ⟨w.heap.size, 12, none⟩ = some (.int .i64 u4)) ∧ w'.cell? ⟨yb, 2, none⟩ = some (.int .i64 0))) (by kernel_rfl) (yy HKS wr (Below.refl _ _)) (fun hHeld => ?_)
    refine ac 0 rfl ?_
    try simp only [Act.put, ah, ai, aj]
    refine ac 1 rfl ?_
    try simp only [Act.put, ah, ai, aj]
    refine ac 2 rfl ?_
    try simp only [Act.put, ah, ai, aj]
    refine ac 3 rfl ?_
    try simp only [Act.put, ah, ai, aj]
    refine af 4 rfl fun K hK => ?_
    go_simp
    refine ((yy cJ) wr.drew (bF (yy HO) (Below.refl _ _).drew)).mono ?_
    rintro e V ⟨rfl, hx⟩
    have HV : Hid (Below wr.heap.size wr V) := yz ((Below.refl wr.heap.size wr).drew.trans hx)
    clear hx
    refine hK.out _ _ (yy HKS _ (yy HV)) (fun hHeld1 => ?_)
    clear hK K hHeld
    refine af 5 rfl fun K hK => ?_
    go_simp
    have HW5 : Hid (cy (V.alloc (.cells #[.string xj] 9)) V.heap.size [xj]) := yz (au V [.string xj] 9)
    have HV5 := yz (ak (yy HV) (an V (.cells #[.string xj] 9)))
    refine hK.out _ _ (yy HKS _ (yy HV5)) (fun hHeld2 => ?_)
    clear hK K hHeld1
    generalize V.alloc (.cells #[.string xj] 9) = W5 at *
    generalize V.heap.size = wb at *
    clear HV
    refine af 6 rfl fun K hK => ?_
    go_simp
    refine (bT a L.length cap lim mode A B' C D coast fr u1 u2 u3 u4 (some ⟨wb, 0, none⟩) 1 1 W5).mono ?_
    rintro e V6 ⟨rfl, hx⟩
    have HV6 := yz (ak (yy HV5) hx)
    have HA : Hid (Ans V6 B (⟨L, lim, mode, A, B', C, D, coast, fr⟩, (u1, u2, u3, u4)) ((⟨L, lim, mode, A, B', C, D, coast, fr⟩, (u1, u2, u3, u4)), R) (.returned (.iface 99 (.agg #[.slice a L.length cap, .int .i64 lim, .int .i64 mode, .int .i64 A, .int .i64 B', .int .i64 C, .int .i64 D, .int .i64 coast, .int .i64 fr, .int .i64 u1, .int .i64 u2, .int .i64 u3, .int .i64 u4, .slice (some ⟨wb, 0, none⟩) 1 1])))) := yz (.inr ⟨a, cap, wb, [xj], rfl, (yy HCr).kept (yy HV6), (yy HW5).kept hx, by simp, by intro x hx; rw [List.mem_singleton] at hx; subst hx; exact hjs, by rw [fX, yy HSB]⟩)
    clear hx
    refine hK.out _ _ (yy HKS _ (yy HV6)) (fun hHeld3 => ?_)
    clear hK K hHeld2
    refine af 7 rfl fun K hK => ?_
    go_simp
    refine hK.out _ _ (yy HKS _ (yy HV6)) (fun hHeld4 => ?_)
    clear hK K hHeld3
    refine wpAnyH_done (by kernel_rfl) ?_ _
    clear hHeld4
    go_wp2_with fail
    go_ret
    exact ⟨yy HA, ak (yy HZ) (ak (yy HBC) (ak (yy HW) (yy HV6)))⟩
   ·obtain ⟨kk, rfl⟩ := Int.eq_ofNat_of_zero_le hks.1
    rw [if_neg hc, Int.toNat_natCast] at HSB
    refine wp_region_held_drew (S := (fun w' => (w'.cell? ⟨w.heap.size, 0, none⟩ = some (.slice a L.length cap) ∧ w'.cell? ⟨w.heap.size, 1, none⟩ = some (.int .i64 lim) ∧ w'.cell? ⟨w.heap.size, 2, none⟩ = some (.int .i64 mode) ∧ w'.cell? ⟨w.heap.size, 3, none⟩ = some (.int .i64 A) ∧ w'.cell? ⟨w.heap.size, 4, none⟩ = some (.int .i64 B') ∧ w'.cell? ⟨w.heap.size, 5, none⟩ = some (.int .i64 C) ∧ w'.cell? ⟨w.heap.size, 6, none⟩ = some (.int .i64 D) ∧ w'.cell? ⟨w.heap.size, 7, none⟩ = some (.int .i64 coast) ∧ w'.cell? ⟨w.heap.size, 8, none⟩ = some (.int .i64 fr) ∧ w'.cell? ⟨w.heap.size, 9, none⟩ = some (.int .i64 u1) ∧ w'.cell? ⟨w.heap.size, 10, none⟩ = some (.int .i64 u2) ∧ w'.cell? ⟨w.heap.size, 11, none⟩ = some (.int .i64 u3) ∧ w'.cell? ⟨w.heap.size, 12, none⟩ = some (.int .i64 u4)) ∧ w'.cell? ⟨yb, 2, none⟩ = some (.int .i64 (kk : Int)))) (by kernel_rfl) (yy HKS wr (Below.refl _ _)) (fun hHeld => ?_)
    refine ac 0 rfl ?_
    try simp only [Act.put, ah, ai, aj]
    refine ac 1 rfl ?_
    try simp only [Act.put, ah, ai, aj]
    refine ac 2 rfl ?_
    try simp only [Act.put, ah, ai, aj]
    refine ac 3 rfl ?_
    try simp only [Act.put, ah, ai, aj]
    refine af 4 rfl fun K hK => ?_
    go_simp
    refine ((yy cJ) wr.drew (bF (yy HO) (Below.refl _ _).drew)).mono ?_
    rintro e V ⟨rfl, hx⟩
    have HV : Hid (Below wr.heap.size wr V) := yz ((Below.refl wr.heap.size wr).drew.trans hx)
    clear hx
    refine hK.out _ _ (yy HKS _ (yy HV)) (fun hHeld1 => ?_)
    clear hK K hHeld
    refine af 5 rfl fun K hK => ?_
    go_simp
    have HW5 : Hid (cy (V.alloc (.cells #[.string xj] 9)) V.heap.size [xj]) := yz (au V [.string xj] 9)
    have HV5 := yz (ak (yy HV) (an V (.cells #[.string xj] 9)))
    refine hK.out _ _ (yy HKS _ (yy HV5)) (fun hHeld2 => ?_)
    clear hK K hHeld1
    generalize V.alloc (.cells #[.string xj] 9) = W5 at *
    generalize V.heap.size = wb at *
    clear HV
    refine af 6 rfl fun K hK => ?_
    go_simp
    refine (dH a L.length cap lim mode A B' C D coast fr u1 u2 u3 u4 (kk : Int) (some ⟨wb, 0, none⟩) 1 1 W5 hc).mono ?_
    rintro e V6 ⟨rfl, hx⟩
    have HV6 := yz (ak (yy HV5) hx)
    have HA : Hid (Ans V6 B (⟨L, lim, mode, A, B', C, D, coast, fr⟩, (u1, u2, u3, u4)) ((⟨L, lim, mode, A, B', C, D, coast, fr⟩, (u1, u2, u3, u4)), R) (.returned (.iface 178 (.agg #[.int .i64 (kk : Int)])))) := yz (.inl ⟨kk, by omega, by omega, rfl, by rw [yy HSB]⟩)
    clear hx
    refine hK.out _ _ (yy HKS _ (yy HV6)) (fun hHeld3 => ?_)
    clear hK K hHeld2
    refine af 7 rfl fun K hK => ?_
    go_simp
    refine hK.out _ _ (yy HKS _ (yy HV6)) (fun hHeld4 => ?_)
    clear hK K hHeld3
    refine wpAnyH_done (by kernel_rfl) ?_ _
    clear hHeld4
    go_wp2_with fail
    go_ret
    exact ⟨yy HA, ak (yy HZ) (ak (yy HBC) (ak (yy HW) (yy HV6)))⟩
end
end Go.Proofs.YtdchjcadhlkpfaaGreatDoor
