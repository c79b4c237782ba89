/- Several texts in one: NaA, NaB, NaC, NaD, NaE, IeA, IeB, IeC, IeD, IeE, IeF, IeG, IeH. -/
import Derived.Deep.RegionHeld
import Derived.WalkMore
import Derived.Deep.DeepCutAuto
import Derived.Maps.OwnSet
import Derived.Maps.Views
import Derived.Test.YtdchjcadhlkpfaaGreatDoorQFnTopOwn18
import Derived.Test.YtdchjcadhlkpfaaGreatDoorQFnTopOwn3
import Derived.Test.YtdchjcadhlkpfaaGreatDoorQFnTopOwn17
import Derived.Test.YtdchjcadhlkpfaaGreatDoorQFnTopOwn1
namespace Go.Proofs.YtdchjcadhlkpfaaGreatDoor
set_option linter.unusedVariables false
set_option linter.unusedSimpArgs false
set_option maxRecDepth 100000
set_option maxHeartbeats 8000000
section
open Go.RowKit Go.Sort
def sgL (s : Sg) : List Value := [.int .i64 s.1.1, .int .i64 s.1.2.1, .int .i64 s.1.2.2, .int .i64 s.2.1, .int .i64 s.2.2.1, .int .i64 s.2.2.2.1, .int .i64 s.2.2.2.2]
def sgV (s : Sg) : Value := .agg #[.int .i64 s.1.1, .int .i64 s.1.2.1, .int .i64 s.1.2.2, .int .i64 s.2.1, .int .i64 s.2.2.1, .int .i64 s.2.2.2.1, .int .i64 s.2.2.2.2]
def jV (w : World) (b o : Nat) (s : Sg) : Prop := w.cell? ⟨b, o, none⟩ = some (.int .i64 s.1.1) ∧ w.cell? ⟨b, o + 1, none⟩ = some (.int .i64 s.1.2.1) ∧ w.cell? ⟨b, o + 2, none⟩ = some (.int .i64 s.1.2.2) ∧ w.cell? ⟨b, o + 3, none⟩ = some (.int .i64 s.2.1) ∧ w.cell? ⟨b, o + 4, none⟩ = some (.int .i64 s.2.2.1) ∧ w.cell? ⟨b, o + 5, none⟩ = some (.int .i64 s.2.2.2.1) ∧ w.cell? ⟨b, o + 6, none⟩ = some (.int .i64 s.2.2.2.2)
theorem jV.lt {w : World} {b o : Nat} {s : Sg} (h : jV w b o s) : b < w.heap.size := World.block_lt_of_cell? w _ h.1
theorem jV.kept {w w' : World} {b o : Nat} {s : Sg} (h : jV w b o s) (hB : Below w.heap.size w w') : jV w' b o s := by
 have hb := h.lt
 obtain ⟨h0, h1, h2, h3, h4, h5, h6⟩ := h
 exact ⟨by rw [hB.cell (p := ⟨b, o, none⟩) hb]; exact h0, by rw [hB.cell (p := ⟨b, o + 1, none⟩) hb]; exact h1, by rw [hB.cell (p := ⟨b, o + 2, none⟩) hb]; exact h2, by rw [hB.cell (p := ⟨b, o + 3, none⟩) hb]; exact h3, by rw [hB.cell (p := ⟨b, o + 4, none⟩) hb]; exact h4, by rw [hB.cell (p := ⟨b, o + 5, none⟩) hb]; exact h5, by rw [hB.cell (p := ⟨b, o + 6, none⟩) hb]; exact h6⟩
theorem cY (w : World) (s : Sg) (t : TypeId) : jV (w.alloc (.cells #[.int .i64 s.1.1, .int .i64 s.1.2.1, .int .i64 s.1.2.2, .int .i64 s.2.1, .int .i64 s.2.2.1, .int .i64 s.2.2.2.1, .int .i64 s.2.2.2.2] t)) w.heap.size 0 s := by
 refine ⟨?_, ?_, ?_, ?_, ?_, ?_, ?_⟩ <;> simp
def ce (w : World) (a : Option Addr) (A : List Sg) (n : Nat) : Prop := n = 0 ∨ ∃ b o, a = some ⟨b, o, none⟩ ∧ b < w.heap.size ∧ ∀ i, i < n → jV w b (o + i * 7) (sgA A i)
theorem ce.kept {w w' : World} {a : Option Addr} {A : List Sg} {n : Nat} (h : ce w a A n) (hB : Below w.heap.size w w') : ce w' a A n := by
 rcases h with h | ⟨b, o, ha, hb, hc⟩
 ·exact .inl h
 ·exact .inr ⟨b, o, ha, Nat.lt_of_lt_of_le hb hB.size, fun i hi => (hc i hi).kept hB⟩
theorem ce.less {w : World} {a : Option Addr} {A : List Sg} {n m : Nat} (h : ce w a A n) (hm : m ≤ n) : ce w a A m := by
 rcases h with h | ⟨b, o, ha, hb, hc⟩
 ·exact .inl (by omega)
 ·exact .inr ⟨b, o, ha, hb, fun i hi => hc i (by omega)⟩
theorem nE (s t : Sg) (w : World) :
  Calls Tryz.prog 194 #[sgV s, sgV t] w fun e w' => e = .returned (.bool (iI s t)) ∧ Below w.heap.size w w' := by
 obtain ⟨⟨a1, a2, a3⟩, a4, a5, a6, a7⟩ := s
 obtain ⟨⟨b1, b2, b3⟩, b4, b5, b6, b7⟩ := t
 unfold sgV iI
 simp only
 have HB := yz (aH w (.cells #[.int .i64 a1, .int .i64 a2, .int .i64 a3, .int .i64 a4, .int .i64 a5, .int .i64 a6, .int .i64 a7] 238) (.cells #[.int .i64 b1, .int .i64 b2, .int .i64 b3, .int .i64 b4, .int .i64 b5, .int .i64 b6, .int .i64 b7] 238))
 go_enter Tryz.func194, Tryz.ntmps194
 go_wp2_with fail
 refine (pt b1 b2 b3 a1 a2 a3 b5 b6 b7 a5 a6 a7 _).mono ?_
 rintro e w1 ⟨rfl, hx⟩
 have HB1 := yz (ak (yy HB) hx)
 clear hx
 go_wp2_with fail
 go_ret
 exact ⟨rfl, yy HB1⟩
theorem mw (s f g : Sg) (w : World) :
  Calls Tryz.prog 195 #[sgV s, sgV f, sgV g] w fun e w' => e = .returned (.bool (da s f g)) ∧ Below w.heap.size w w' := by
 have A0 := ((cY w s 238).kept (an _ (.cells #[.int .i64 f.1.1, .int .i64 f.1.2.1, .int .i64 f.1.2.2, .int .i64 f.2.1, .int .i64 f.2.2.1, .int .i64 f.2.2.2.1, .int .i64 f.2.2.2.2] 238))).kept (an _ (.cells #[.int .i64 g.1.1, .int .i64 g.1.2.1, .int .i64 g.1.2.2, .int .i64 g.2.1, .int .i64 g.2.2.1, .int .i64 g.2.2.2.1, .int .i64 g.2.2.2.2] 238))
 have F0 := (cY (w.alloc (.cells #[.int .i64 s.1.1, .int .i64 s.1.2.1, .int .i64 s.1.2.2, .int .i64 s.2.1, .int .i64 s.2.2.1, .int .i64 s.2.2.2.1, .int .i64 s.2.2.2.2] 238)) f 238).kept (an _ (.cells #[.int .i64 g.1.1, .int .i64 g.1.2.1, .int .i64 g.1.2.2, .int .i64 g.2.1, .int .i64 g.2.2.1, .int .i64 g.2.2.2.1, .int .i64 g.2.2.2.2] 238))
 have G0 := cY ((w.alloc (.cells #[.int .i64 s.1.1, .int .i64 s.1.2.1, .int .i64 s.1.2.2, .int .i64 s.2.1, .int .i64 s.2.2.1, .int .i64 s.2.2.2.1, .int .i64 s.2.2.2.2] 238)).alloc (.cells #[.int .i64 f.1.1, .int .i64 f.1.2.1, .int .i64 f.1.2.2, .int .i64 f.2.1, .int .i64 f.2.2.1, .int .i64 f.2.2.2.1, .int .i64 f.2.2.2.2] 238)) g 238
 have B0 := dQ w (.cells #[.int .i64 s.1.1, .int .i64 s.1.2.1, .int .i64 s.1.2.2, .int .i64 s.2.1, .int .i64 s.2.2.1, .int .i64 s.2.2.2.1, .int .i64 s.2.2.2.2] 238) (.cells #[.int .i64 f.1.1, .int .i64 f.1.2.1, .int .i64 f.1.2.2, .int .i64 f.2.1, .int .i64 f.2.2.1, .int .i64 f.2.2.2.1, .int .i64 f.2.2.2.2] 238) (.cells #[.int .i64 g.1.1, .int .i64 g.1.2.1, .int .i64 g.1.2.2, .int .i64 g.2.1, .int .i64 g.2.2.1, .int .i64 g.2.2.2.1, .int .i64 g.2.2.2.2] 238)
 have e1 : (w.alloc (.cells #[.int .i64 s.1.1, .int .i64 s.1.2.1, .int .i64 s.1.2.2, .int .i64 s.2.1, .int .i64 s.2.2.1, .int .i64 s.2.2.2.1, .int .i64 s.2.2.2.2] 238)).heap.size = w.heap.size + 1 := by simp
 have e2 : ((w.alloc (.cells #[.int .i64 s.1.1, .int .i64 s.1.2.1, .int .i64 s.1.2.2, .int .i64 s.2.1, .int .i64 s.2.2.1, .int .i64 s.2.2.2.1, .int .i64 s.2.2.2.2] 238)).alloc (.cells #[.int .i64 f.1.1, .int .i64 f.1.2.1, .int .i64 f.1.2.2, .int .i64 f.2.1, .int .i64 f.2.2.1, .int .i64 f.2.2.2.1, .int .i64 f.2.2.2.2] 238)).heap.size = w.heap.size + 1 + 1 := by simp
 rw [e1] at F0
 rw [e2] at G0
 clear e1 e2
 obtain ⟨⟨a1, a2, a3⟩, a4, a5, a6, a7⟩ := s
 obtain ⟨⟨b1, b2, b3⟩, b4, b5, b6, b7⟩ := f
 obtain ⟨⟨c1, c2, c3⟩, c4, c5, c6, c7⟩ := g
 unfold sgV da vF
 simp only at A0 F0 G0 B0 ⊢
 have cD := yz (fun W => qp b1 b2 b3 c1 c2 c3 a1 a2 a3 W)
 have cE := yz (fun W => qp b5 b6 b7 c5 c6 c7 a5 a6 a7 W)
 generalize mZ b1 b2 b3 c1 c2 c3 a1 a2 a3 = d1 at *
 generalize mZ b5 b6 b7 c5 c6 c7 a5 a6 a7 = d2 at *
 have cO := yz (fun W => jd d1 0 W)
 have cP := yz (fun W => jd d2 0 W)
 generalize ja d1 0 = o1 at *
 generalize ja d2 0 = o2 at *
 go_enter Tryz.func195, Tryz.ntmps195
 go_wp2_with fail
 generalize ((w.alloc (.cells #[.int .i64 a1, .int .i64 a2, .int .i64 a3, .int .i64 a4, .int .i64 a5, .int .i64 a6, .int .i64 a7] 238)).alloc (.cells #[.int .i64 b1, .int .i64 b2, .int .i64 b3, .int .i64 b4, .int .i64 b5, .int .i64 b6, .int .i64 b7] 238)).alloc (.cells #[.int .i64 c1, .int .i64 c2, .int .i64 c3, .int .i64 c4, .int .i64 c5, .int .i64 c6, .int .i64 c7] 238) = W0 at A0 F0 G0 B0 ⊢
 refine (yy cD _).mono ?_
 rintro e w1 ⟨rfl, hx⟩
 have A1 := A0.kept hx
 have F1 := F0.kept hx
 have G1 := G0.kept hx
 have B1 := ak B0 hx
 clear hx A0 F0 G0 B0
 go_wp2_with fail
 refine (yy cO _).mono ?_
 rintro e w2 ⟨rfl, rfl⟩
 obtain ⟨x0, x1, x2, x3, x4, x5, x6⟩ := A1
 obtain ⟨y0, y1, y2, y3, y4, y5, y6⟩ := F1
 obtain ⟨z0, z1, z2, z3, z4, z5, z6⟩ := G1
 simp only [Nat.zero_add] at x0 x1 x2 x3 x4 x5 x6 y0 y1 y2 y3 y4 y5 y6 z0 z1 z2 z3 z4 z5 z6
 go_wp2_with fail
 refine (yy cE _).mono ?_
 rintro e w3 ⟨rfl, hx⟩
 have B2 := ak B1 hx
 clear hx x0 x1 x2 x3 x4 x5 x6 y0 y1 y2 y3 y4 y5 y6 z0 z1 z2 z3 z4 z5 z6 B1
 go_wp2_with fail
 refine (yy cP _).mono ?_
 rintro e w4 ⟨rfl, rfl⟩
 go_wp2_with fail
 go_ret
 exact ⟨by first | rfl | simp [go_sem], B2⟩
theorem fS (A : List Sg) (n : Nat) (s : Sg) (a : Option Addr) (c : Nat) (w : World) (hn : n ≤ 1048576) (hcap : n ≤ c) (hc9 : c ≤ 9223372036854775807) (hS : ce w a A n) :
  Calls Tryz.prog 182 #[sgV s, .slice a n c] w fun e w' => e = .returned (.bool (bM A s n)) ∧ Below w.heap.size w w' := by
 have cF : Hid (∀ (t : Sg) (W : World), Calls Tryz.prog 194 #[sgV s, sgV t] W fun e w' => e = .returned (.bool (iI s t)) ∧ Below W.heap.size W w') := yz (fun t W => nE s t W)
 have cS : Hid (∀ (f g : Sg) (W : World), Calls Tryz.prog 195 #[sgV s, sgV f, sgV g] W fun e w' => e = .returned (.bool (da s f g)) ∧ Below W.heap.size W w') := yz (fun f g W => mw s f g W)
 have V0 := yz (cY w s 238)
 have B0 := yz (an w (.cells #[.int .i64 s.1.1, .int .i64 s.1.2.1, .int .i64 s.1.2.2, .int .i64 s.2.1, .int .i64 s.2.2.1, .int .i64 s.2.2.2.1, .int .i64 s.2.2.2.2] 238))
 obtain ⟨⟨a1, a2, a3⟩, a4, a5, a6, a7⟩ := s
 simp only at V0 B0
 have cF' : Hid (∀ (t : Sg) (W : World), Calls Tryz.prog 194 #[.agg #[.int .i64 a1, .int .i64 a2, .int .i64 a3, .int .i64 a4, .int .i64 a5, .int .i64 a6, .int .i64 a7], sgV t] W fun e w' => e = .returned (.bool (iI ((a1, a2, a3), a4, a5, a6, a7) t)) ∧ Below W.heap.size W w') := cF
 have cS' : Hid (∀ (f g : Sg) (W : World), Calls Tryz.prog 195 #[.agg #[.int .i64 a1, .int .i64 a2, .int .i64 a3, .int .i64 a4, .int .i64 a5, .int .i64 a6, .int .i64 a7], sgV f, sgV g] W fun e w' => e = .returned (.bool (da ((a1, a2, a3), a4, a5, a6, a7) f g)) ∧ Below W.heap.size W w') := cS
 clear cF cS
 show Calls Tryz.prog 182 #[.agg #[.int .i64 a1, .int .i64 a2, .int .i64 a3, .int .i64 a4, .int .i64 a5, .int .i64 a6, .int .i64 a7], .slice a n c] w _
 rcases hS with rfl | ⟨b, o, rfl, hb, hc⟩
 ·go_enter Tryz.func182, Tryz.ntmps182
  go_wp2_with fail
  refine wp_loop_rounds 1 ?_
  rw [rounds_succ]
  go_wp2_with fail
  go_ret
  exact ⟨rfl, yy B0⟩
 have HC := yz hc
 clear hc
 obtain ⟨sg, hsg⟩ : ∃ sg : Sg, sg = ((a1, a2, a3), a4, a5, a6, a7) := ⟨_, rfl⟩
 rw [← hsg] at cF' cS' V0
 rw [← hsg]
 have HSG := yz hsg
 clear hsg
 go_enter Tryz.func182, Tryz.ntmps182
 go_wp2_with fail
 go_loopw [11] (fun i wr => ∃ k : Nat, k ≤ n ∧ i = .int .i64 k ∧ Hid (∀ j, j < k → bW A sg j = true) ∧ Hid (Below w.heap.size w wr) ∧ Hid (jV wr w.heap.size 0 sg)) (fun i _ => n - (intOf i).toNat)
 case atStart => exact ⟨0, by omega, rfl, yz (fun j hj => absurd hj (Nat.not_lt_zero _)), B0, V0⟩
 case round =>
  clear B0 V0
  obtain ⟨k, hk, rfl, HF, HB, HV⟩ := hrel
  by_cases hkn : k < n
  ·have hkn2 : (k : Int) < (n : Int) := by omega
   obtain ⟨t, ht⟩ : ∃ t, sgA A k = t := ⟨_, rfl⟩
   have hst := ((yy HC) k hkn).kept (yy HB)
   rw [ht] at hst
   have HT := yz ht
   clear ht
   have cFt := yz (yy cF' t)
   have cSt := yz (fun f W => yy cS' f t W)
   have HFA : Hid (∀ b, iI sg t = b → iI sg (sgA A k) = b) := yz (fun b h => by rw [yy HT]; exact h)
   have HID : Hid (sg.2.1 = a4) := yz (by rw [yy HSG])
   have HTI : Hid ((sgA A k).2.1 = t.2.1) := yz (by rw [yy HT])
   have Z := an wr (.cells #[.int .i64 t.1.1, .int .i64 t.1.2.1, .int .i64 t.1.2.2, .int .i64 t.2.1, .int .i64 t.2.2.1, .int .i64 t.2.2.2.1, .int .i64 t.2.2.2.2] 238)
   have T1 := yz (cY wr t 238)
   have HB1 := yz (ak (yy HB) Z)
   have HV1 := yz ((yy HV).kept Z)
   clear Z HB HV
   obtain ⟨⟨b1, b2, b3⟩, b4, b5, b6, b7⟩ := t
   have cFt' : Hid (∀ (W : World), Calls Tryz.prog 194 #[.agg #[.int .i64 a1, .int .i64 a2, .int .i64 a3, .int .i64 a4, .int .i64 a5, .int .i64 a6, .int .i64 a7], .agg #[.int .i64 b1, .int .i64 b2, .int .i64 b3, .int .i64 b4, .int .i64 b5, .int .i64 b6, .int .i64 b7]] W fun e w' => e = .returned (.bool (iI sg ((b1, b2, b3), b4, b5, b6, b7))) ∧ Below W.heap.size W w') := cFt
   have cSt' : Hid (∀ (f : Sg) (W : World), Calls Tryz.prog 195 #[.agg #[.int .i64 a1, .int .i64 a2, .int .i64 a3, .int .i64 a4, .int .i64 a5, .int .i64 a6, .int .i64 a7], sgV f, .agg #[.int .i64 b1, .int .i64 b2, .int .i64 b3, .int .i64 b4, .int .i64 b5, .int .i64 b6, .int .i64 b7]] W fun e w' => e = .returned (.bool (da sg f ((b1, b2, b3), b4, b5, b6, b7))) ∧ Below W.heap.size W w') := cSt
   clear cFt cSt
   have HTI' : Hid ((sgA A k).2.1 = b4) := HTI
   clear HTI
   obtain ⟨c0, c1, c2, c3, c4, c5, c6⟩ := hst
   simp only at c0 c1 c2 c3 c4 c5 c6 T1 HB1 HV1
   obtain ⟨tg, htg⟩ : ∃ sg : Sg, sg = ((b1, b2, b3), b4, b5, b6, b7) := ⟨_, rfl⟩
   rw [← htg] at cFt' cSt' T1 HFA HT
   have HTG := yz htg
   clear htg
   obtain ⟨v0, v1, v2, v3, v4, v5, v6⟩ := yy HV1
   obtain ⟨x0, x1, x2, x3, x4, x5, x6⟩ := yy T1
   rw [yy HSG] at v0 v1 v2 v3 v4 v5 v6
   rw [yy HTG] at x0 x1 x2 x3 x4 x5 x6
   simp only [Nat.zero_add] at v0 v1 v2 v3 v4 v5 v6 x0 x1 x2 x3 x4 x5 x6
   by_cases hid : a4 = b4
   ·subst hid
    have HNO := yz (mH (A := A) (s := sg) hkn (rh (by rw [yy HID, yy HTI'])))
    go_wp2_with fail
    go_ret
    exact ⟨by rw [yy HNO]; rfl, yy HB1⟩
   have hid' : (a4 == b4) = false := by simp [hid]
   go_wp2_with fail
   clear c0 c1 c2 c3 c4 c5 c6 v0 v1 v2 v3 v4 v5 v6 x0 x1 x2 x3 x4 x5 x6
   generalize wr.alloc (.cells #[.int .i64 b1, .int .i64 b2, .int .i64 b3, .int .i64 b4, .int .i64 b5, .int .i64 b6, .int .i64 b7] 238) = W1 at T1 HB1 HV1 ⊢
   generalize wr.heap.size = tb at *
   refine (yy cFt' _).mono ?_
   rintro e W2 ⟨rfl, hx⟩
   have T2 := yz ((yy T1).kept hx)
   have HB2 := yz (ak (yy HB1) hx)
   have HV2 := yz ((yy HV1).kept hx)
   clear hx T1 HB1 HV1
   cases hfar : iI sg tg
   ·have HNO := yz (mH (A := A) (s := sg) hkn (po (yy HFA _ hfar)))
    go_wp2_with fail
    go_ret
    exact ⟨by rw [yy HNO]; rfl, yy HB2⟩
   have HFT := yz (yy HFA _ hfar)
   have hkc : (k : Int) ≤ (c : Int) := by omega
   clear hfar HFA cFt'
   go_wp2_with fail
   go_loopw [33] (fun i wr => ∃ j : Nat, j ≤ k ∧ i = .int .i64 j ∧ Hid (∀ l, l < j → da sg (sgA A l) tg = true) ∧ Hid (Below w.heap.size w wr) ∧ Hid (jV wr w.heap.size 0 sg) ∧ Hid (jV wr tb 0 tg)) (fun i _ => k - (intOf i).toNat)
   case atStart => exact ⟨0, by omega, rfl, yz (fun j hj => absurd hj (Nat.not_lt_zero _)), HB2, HV2, T2⟩
   case round =>
    clear HB2 HV2 T2
    obtain ⟨j, hj, rfl, HL, HB, HV, HT2⟩ := hrel
    by_cases hjk : j < k
    ·have hjk2 : (j : Int) < (k : Int) := by omega
     obtain ⟨f, hf⟩ : ∃ t, sgA A j = t := ⟨_, rfl⟩
     have hst := ((yy HC) j (by omega)).kept (yy HB)
     rw [hf] at hst
     have HFE := yz hf
     clear hf
     have cSf := yz (yy cSt' f)
     have Z := an wr (.cells #[.int .i64 f.1.1, .int .i64 f.1.2.1, .int .i64 f.1.2.2, .int .i64 f.2.1, .int .i64 f.2.2.1, .int .i64 f.2.2.2.1, .int .i64 f.2.2.2.2] 238)
     have F1 := cY wr f 238
     have HB1 := yz (ak (yy HB) Z)
     have HV1 := yz ((yy HV).kept Z)
     have HT3 := yz ((yy HT2).kept Z)
     clear Z HB HV HT2
     have HSB : Hid (da sg (sgA A j) tg = da sg f tg) := yz (by rw [yy HFE])
     have HSC : Hid (da sg (sgA A j) (sgA A k) = da sg f tg) := yz (by rw [yy HFE, yy HT])
     have cSg : Hid (∀ (W : World), Calls Tryz.prog 195 #[.agg #[.int .i64 a1, .int .i64 a2, .int .i64 a3, .int .i64 a4, .int .i64 a5, .int .i64 a6, .int .i64 a7], sgV f, .agg #[.int .i64 b1, .int .i64 b2, .int .i64 b3, .int .i64 b4, .int .i64 b5, .int .i64 b6, .int .i64 b7]] W fun e w' => e = .returned (.bool (da sg f tg)) ∧ Below W.heap.size W w') := cSf
     clear cSf
     generalize da sg f tg = sb at *
     obtain ⟨⟨f1, f2, f3⟩, f4, f5, f6, f7⟩ := f
     have cSh : Hid (∀ (W : World), Calls Tryz.prog 195 #[.agg #[.int .i64 a1, .int .i64 a2, .int .i64 a3, .int .i64 a4, .int .i64 a5, .int .i64 a6, .int .i64 a7], .agg #[.int .i64 f1, .int .i64 f2, .int .i64 f3, .int .i64 f4, .int .i64 f5, .int .i64 f6, .int .i64 f7], .agg #[.int .i64 b1, .int .i64 b2, .int .i64 b3, .int .i64 b4, .int .i64 b5, .int .i64 b6, .int .i64 b7]] W fun e w' => e = .returned (.bool sb) ∧ Below W.heap.size W w') := cSg
     clear cSg
     obtain ⟨c0, c1, c2, c3, c4, c5, c6⟩ := hst
     simp only at c0 c1 c2 c3 c4 c5 c6 F1 HB1 HV1 HT3
     obtain ⟨v0, v1, v2, v3, v4, v5, v6⟩ := yy HV1
     obtain ⟨x0, x1, x2, x3, x4, x5, x6⟩ := yy HT3
     obtain ⟨y0, y1, y2, y3, y4, y5, y6⟩ := F1
     rw [yy HSG] at v0 v1 v2 v3 v4 v5 v6
     rw [yy HTG] at x0 x1 x2 x3 x4 x5 x6
     simp only [Nat.zero_add] at v0 v1 v2 v3 v4 v5 v6 x0 x1 x2 x3 x4 x5 x6 y0 y1 y2 y3 y4 y5 y6
     go_wp2_with fail
     clear c0 c1 c2 c3 c4 c5 c6 v0 v1 v2 v3 v4 v5 v6 x0 x1 x2 x3 x4 x5 x6 y0 y1 y2 y3 y4 y5 y6
     refine (yy cSh _).mono ?_
     rintro e W4 ⟨rfl, hx⟩
     have HB4 := yz (ak (yy HB1) hx)
     have HV4 := yz ((yy HV1).kept hx)
     have HT4 := yz ((yy HT3).kept hx)
     clear hx HB1 HV1 HT3
     cases sb
     ·have HNO := yz (mH (A := A) (s := sg) hkn (oi hjk (yy HSC)))
      go_wp2_with fail
      go_ret
      exact ⟨by rw [yy HNO]; rfl, yy HB4⟩
     ·go_wp2_with fail
      go_roundw
      case rel => exact ⟨j + 1, by omega, by go_num, yz (fun l hl => by
       by_cases e : l = j
       ·rw [e]; exact yy HSB
       ·exact yy HL l (by omega)), HB4, HV4, HT4⟩
      case measure => simp [intOf]; omega
    ·have hjk' : j = k := by omega
     subst hjk'
     have HOK : Hid (bW A sg j = true) := yz (pF (by rw [yy HID, yy HTI']; exact hid) (yy HFT) (fun l hl => by rw [yy HT]; exact yy HL l hl))
     go_wp2_with fail
     go_roundw
     case rel => exact ⟨j + 1, by omega, by go_num, yz (fun l hl => by
      by_cases e : l = j
      ·rw [e]; exact yy HOK
      ·exact yy HF l (by omega)), HB, HV⟩
     case measure => simp [intOf]; omega
  ·have hkn' : k = n := by omega
   subst hkn'
   have HY := yz (sj (A := A) (s := sg) (yy HF))
   go_wp2_with fail
   go_ret
   exact ⟨by rw [yy HY]; rfl, yy HB⟩
end
section
open Go.RowKit Go.Sort
theorem gY {P : Program} {ops : Array Oper} {o : Oper} {a : Act} {w : World} {K : Act → World → Prop} {Q : Exit → Act → World → Prop} {E : Prop} (hgd : o.guard = none) (s x : Operand) (t : TypeId)
  (ho : o.op = .call { callee := .builtin .append, args := #[s, x], argTypes := #[t, t] })
  (base : Nat) (e : TypeId) (i : TypeInfo) (z : Value) (size bytes : Nat) (ht : P.underlying t = some (.slice e)) (hi : P.info? e = some i) (hz : i.zero = some z)
  (hsize : i.size = size) (hby : i.bytes = bytes) (hzs : z.cells.size = size) (hsz : 0 < size)
  (v : Value) (n : Nat) (xs : List Value) (hs : a.eval s = v) (hown : w.ownsRow base e size v n xs)
  (ad : Addr) (m c : Nat) (news : List Value) (hx : a.eval x = .slice (some ad) m c) (hl : news.length = m * size) (hnews : ∀ j u, news[j]? = some u → w.cell? (ad.add j) = some u) (h1 : ∀ u ∈ news, u.oneCell' = true)
  (h63 : n + m ≤ maxLen) (hbytes : (n + m) * bytes ≤ 140737488355328) (hbase : base ≤ w.heap.size)
  (h : ∀ v' w', w'.ownsRow base e size v' (n + m) (xs ++ news) → w.grownBy w' v.ownBlock → K (a.put o.dst v') w') : if Region.wanted o (yielded ops a.tmps) = true then Oper.wp P o a w K Q else E := by
 have hw : Region.wanted o (yielded ops a.tmps) = true := by simp [Region.wanted, hgd]
 rw [if_pos hw]
 exact wp_append_own w s x t ho base e i z size bytes ht hi hz hsize hby hzs hsz v n xs hs hown ad m c news hx hl hnews h1 h63 hbytes hbase fun v' w' h2 h3 _ => h v' w' h2 h3
theorem en {w w' : World} {a : Addr} {v : Value} (h : w.cell? a = some v) (hB : Below w.heap.size w w') : w'.cell? a = some v := (hB.cell (World.block_lt_of_cell? w a h)).trans h
theorem bf {w w' : World} {a : Addr} {v : Value} {row : Option Nat} (h : w.cell? a = some v) (hg : w.grownBy w' row) (hne : some a.block ≠ row) : w'.cell? a = some v := (World.cell?_of_block (hg.block a.block (World.block_lt_of_cell? w a h) hne)).trans h
theorem jL : (Tryz.prog.info? 238).map (fun i => (i.zero, i.size, i.bytes)) = some (some (.agg #[.int .i64 0, .int .i64 0, .int .i64 0, .int .i64 0, .int .i64 0, .int .i64 0, .int .i64 0]), 7, 56) := by kernel_rfl
def bm (S : List Sg) : List Value := S.flatMap sgL
theorem jT (A B : List Sg) : bm (A ++ B) = bm A ++ bm B := by unfold bm; rw [List.flatMap_append]
theorem jo {S : List Sg} {v : Value} (h : v ∈ bm S) : v.oneCell' = true := by
 unfold bm at h
 rw [List.mem_flatMap] at h
 obtain ⟨p, _, hp⟩ := h
 simp [sgL] at hp
 rcases hp with rfl | rfl | rfl | rfl | rfl | rfl | rfl <;> rfl
theorem sd : ∀ (S : List Sg) (k : Nat) (b : Sg), S[k]? = some b → ∀ j u, (sgL b)[j]? = some u → (bm S)[k * 7 + j]? = some u := by
 intro S
 induction S with
 | nil => intro k b h; simp at h
 | cons x S ih =>
  intro k b h j u hu
  have e : bm (x :: S) = sgL x ++ bm S := by unfold bm; simp
  have hj : j < 7 := (List.getElem?_eq_some_iff.1 hu).1
  rw [e]
  cases k with
  | zero =>
   simp at h
   subst h
   rw [List.getElem?_append_left (by show _ < 7; omega)]
   simpa using hu
  | succ k =>
   rw [List.getElem?_append_right (by show 7 ≤ _; omega)]
   rw [show (k + 1) * 7 + j - (sgL x).length = k * 7 + j by show _ - 7 = _; omega]
   exact ih k b (by simpa using h) j u hu
theorem gG {w : World} {B : Nat} {a : Option Addr} {c : Nat} {A : List Sg} (h : w.ownsRow B 238 7 (.slice a A.length c) A.length (bm A)) : ce w a A A.length := by
 rcases h.2 with ⟨h1, h0⟩ | ⟨g, cap, cur, hv, hb, hg, hnc, hcm, hcs, htake⟩
 ·exact .inl h0
 ·injection hv with e1 e2 e3
  refine .inr ⟨g, 0, e1, (Array.getElem?_eq_some_iff.1 hg).1, fun k hk => ?_⟩
  have hk' : A[k]? = some (sgA A k) := by unfold sgA; rw [List.getD_eq_getElem?_getD, List.getElem?_eq_getElem hk]; rfl
  have cl : ∀ j u, (sgL (sgA A k))[j]? = some u → w.cell? ⟨g, 0 + k * 7 + j, none⟩ = some u := by
   intro j u hu
   have hj : j < 7 := (List.getElem?_eq_some_iff.1 hu).1
   have e := sd A k _ hk' j u hu
   rw [cell_of_row w g _ cur _ _ hg]
   rw [← htake, List.getElem?_take, if_pos (by omega)] at e
   rw [Nat.zero_add]
   simpa using e
  exact ⟨cl 0 _ rfl, cl 1 _ rfl, cl 2 _ rfl, cl 3 _ rfl, cl 4 _ rfl, cl 5 _ rfl, cl 6 _ rfl⟩
theorem pX {w : World} {B : Nat} {a : Option Addr} {c n m : Nat} {t : TypeId} {xs : List Value} (h : w.ownsRow B t m (.slice a n c) n xs) (hm : 0 < m) : n ≤ c := by
 rcases h.2 with ⟨h1, h0⟩ | ⟨g, cap, cur, hv, hb, hg, hnc, hcm, hcs, htake⟩
 ·injection h1 with _ e2 e3
  omega
 ·injection hv with e1 e2 e3
  omega
theorem im (L : List St) (S : List D3) (ids : List Int) (n : Nat) (ar br ir : Option Addr) (cr dr er : Nat) (p : Addr) (w : World) (hk : be L = true) (hn : L.length ≤ 1048576) (hcap : L.length ≤ cr) (hc9 : cr ≤ 9223372036854775807) (hm : S.length ≤ 6) (hl : n = S.length) (hS : aL w ar L L.length) (hD : bG w br S S.length) (hI : fR w ir ids n) (hE : aW p w) :
  Calls Tryz.prog 203 #[.slice ar L.length cr, .slice br S.length dr, .slice ir n er] w fun e w' => (∃ v, e = .returned v ∧ w'.ownsRow w.heap.size 238 7 v (aq L S ids n).length (bm (aq L S ids n))) ∧ Below w.heap.size w w' := by
 obtain ⟨i0, hinf, hz0, hz1, hz2⟩ := info_parts jL
 have hm8 : 1000 ≤ maxLen := by decide +kernel
 have cA := yz (fun (W : World) (id : Int) hW hE => kv L id ar cr p W hn hcap hc9 hW hE)
 have HAT : Hid (∀ id, lh L id = atV L L.length id) := yz (fun id => by unfold lh; rw [if_pos hk])
 have HS := yz hS
 have HD := yz hD
 have HE := yz hE
 have HN := yz (ez L S ids)
 have HLE := yz (ec L S ids)
 have HSO : Hid (∀ i, mB L S ids i = (vA S i, (ids.getD i 0, atV L L.length (ids.getD i 0)))) := yz (fun i => rfl)
 clear hS hD hE hk hcap hc9
 generalize hme : S.length = m at *
 subst hl
 generalize L.length = ln at *
 rcases hI with rfl | ⟨ib, io, rfl, hib, hic⟩
 ·go_enter Tryz.func203, Tryz.ntmps203
  go_wp2_with fail
  refine wp_loop_rounds 1 ?_
  rw [rounds_succ]
  go_wp2_with fail
  go_ret
  exact ⟨⟨_, rfl, World.ownsRow_nil _ _ _ _⟩, Below.refl _ _⟩
 have HIC := yz hic
 clear hic
 go_enter Tryz.func203, Tryz.ntmps203
 go_wp2_with fail
 go_loopw [7, 13] (fun v kk wr => ∃ i : Nat, i ≤ n ∧ kk = .int .i64 i ∧ Hid (wr.ownsRow w.heap.size 238 7 v (aq L S ids i).length (bm (aq L S ids i))) ∧ Hid (Below w.heap.size w wr)) (fun _ kk _ => n - (intOf kk).toNat)
 case atStart => exact ⟨0, by omega, rfl, yz (World.ownsRow_nil _ _ _ _), yz (Below.refl _ _)⟩
 case round =>
  obtain ⟨i, hi, rfl, HO, HB⟩ := hrel
  by_cases hin : i < n
  ·have hin2 : (i : Int) < (n : Int) := by omega
   have ci : wr.cell? ⟨ib, io + i, none⟩ = some (.int .i64 (ids.getD i 0)) := by rw [(yy HB).cell (p := ⟨ib, io + i, none⟩) hib]; exact yy HIC i hin
   have HSN := yz (yy HN i)
   have HSI := yz (yy HSO i)
   have hle := yy HLE i
   generalize ids.getD i 0 = id at *
   by_cases hid : id = 0
   ·subst hid
    rw [if_neg (by simp), List.append_nil] at HSN
    have HO3 : Hid (wr.ownsRow w.heap.size 238 7 u7 (aq L S ids (i + 1)).length (bm (aq L S ids (i + 1)))) := yz (by rw [yy HSN]; exact yy HO)
    go_wp2_with fail
    go_roundw
    case rel => exact ⟨i + 1, by omega, by go_num, HO3, HB⟩
    case measure => simp [intOf] <;> omega
   ·have hid' : (id == 0) = false := by simp [hid]
    rw [if_pos hid] at HSN
    rw [yy HSI] at HSN
    clear HSI
    have cA' := yz (fun (W : World) hW hE => yy cA W id hW hE)
    rw [yy HAT id] at cA'
    generalize atV L ln id = q at *
    obtain ⟨q1, q2, q3⟩ := q
    go_wp2_with fail
    refine (yy cA' _ ((yy HS).kept (yy HB)) ((yy HE).kept (yy HB))).mono ?_
    rintro e W1 ⟨rfl, hx⟩
    unfold vP
    simp only
    have HO1 := gP (yy HO) hx
    have HB1 := ak (yy HB) hx
    clear hx HO HB cA'
    have HU : Hid (∀ z, u7.ownBlock = some z → w.heap.size ≤ z ∧ z < W1.heap.size) := yz (fun z e => HO1.lt z e)
    have Z := an W1 (.cells #[.int .i64 id, .int .i64 q1, .int .i64 q2, .int .i64 q3] 74)
    have HO2 := yz (gP HO1 Z)
    have HB2 := yz (ak HB1 Z)
    have N2 := yz (cq W1 (id, q1, q2, q3) 74)
    clear Z HO1 HB1 ci
    go_wp2_with fail
    generalize W1.alloc (.cells #[.int .i64 id, .int .i64 q1, .int .i64 q2, .int .i64 q3] 74) = W2 at HO2 HB2 N2 ⊢
    generalize W1.heap.size = tb at *
    rcases yy HD with h | ⟨bb, bo, rfl, hbb, hbc⟩
    ·omega
    have hst := (hbc i hin).kept hbb (yy HB2)
    clear hbc
    generalize vA S i = sv at *
    obtain ⟨v1, v2, v3⟩ := sv
    obtain ⟨c0, c1, c2⟩ := hst
    obtain ⟨d0, d1, d2, d3⟩ := yy N2
    simp only [Nat.zero_add] at d0 d1 d2 d3
    simp only at c0 c1 c2
    refine wp_region_held_drew (S := (fun w' => (w'.cell? ⟨bb, bo + i * 3, none⟩ = some (.int .i64 v1) ∧ w'.cell? ⟨bb, bo + i * 3 + 1, none⟩ = some (.int .i64 v2) ∧ w'.cell? ⟨bb, bo + i * 3 + 2, none⟩ = some (.int .i64 v3)) ∧ w'.cell? ⟨tb, 0, none⟩ = some (.int .i64 id) ∧ w'.cell? ⟨tb, 1, none⟩ = some (.int .i64 q1) ∧ w'.cell? ⟨tb, 2, none⟩ = some (.int .i64 q2) ∧ w'.cell? ⟨tb, 3, none⟩ = some (.int .i64 q3))) (by kernel_rfl) ?_ (fun hHeld => ?_)
    ·exact ⟨⟨c0, c1, c2⟩, d0, d1, d2, d3⟩
    refine ac 0 rfl ?_
    try simp only [Act.put, ah, ai, aj]
    refine ac 1 rfl ?_
    try simp only [Act.put, ah, ai, aj]
    refine ac 2 rfl ?_
    try simp only [Act.put, ah, ai, aj]
    refine ac 3 rfl ?_
    try simp only [Act.put, ah, ai, aj]
    refine ac 4 rfl ?_
    try simp only [Act.put, ah, ai, aj]
    refine ac 5 rfl ?_
    try simp only [Act.put, ah, ai, aj]
    refine ac 6 rfl ?_
    try simp only [Act.put, ah, ai, aj]
    have HOd : W2.drew.ownsRow w.heap.size 238 7 u7 (aq L S ids i).length (bm (aq L S ids i)) := yy HO2
    have HBd := (yy HB2).drew
    have hbs : w.heap.size ≤ W2.drew.heap.size := HBd.size
    have hbs2 : w.heap.size ≤ W2.heap.size := hbs
    have c0d : W2.drew.cell? ⟨bb, bo + i * 3, none⟩ = some (.int .i64 v1) := c0
    have c1d : W2.drew.cell? ⟨bb, bo + i * 3 + 1, none⟩ = some (.int .i64 v2) := c1
    have c2d : W2.drew.cell? ⟨bb, bo + i * 3 + 2, none⟩ = some (.int .i64 v3) := c2
    have d0d : W2.drew.cell? ⟨tb, 0, none⟩ = some (.int .i64 id) := d0
    have d1d : W2.drew.cell? ⟨tb, 1, none⟩ = some (.int .i64 q1) := d1
    have d2d : W2.drew.cell? ⟨tb, 2, none⟩ = some (.int .i64 q2) := d2
    have d3d : W2.drew.cell? ⟨tb, 3, none⟩ = some (.int .i64 q3) := d3
    clear c0 c1 c2 d0 d1 d2 d3
    refine af 7 rfl fun K hK => ?_
    go_simp
    have Z5 := an W2.drew (.cells #[.int .i64 v1, .int .i64 v2, .int .i64 v3, .int .i64 id, .int .i64 q1, .int .i64 q2, .int .i64 q3] 238)
    have hown := gP HOd Z5
    have B5 := ak HBd Z5
    have c0 := en c0d Z5
    have c1 := en c1d Z5
    have c2 := en c2d Z5
    have d0 := en d0d Z5
    have d1 := en d1d Z5
    have d2 := en d2d Z5
    have d3 := en d3d Z5
    clear Z5 c0d c1d c2d d0d d1d d2d d3d HOd HBd
    refine hK.out _ _ ?_ (fun hHeld3 => ?_)
    ·exact ⟨⟨c0, c1, c2⟩, d0, d1, d2, d3⟩
    clear hK K hHeld
    refine af 8 rfl fun K hK => ?_
    refine gY rfl _ _ 235 rfl w.heap.size 238 i0 (.agg #[.int .i64 0, .int .i64 0, .int .i64 0, .int .i64 0, .int .i64 0, .int .i64 0, .int .i64 0]) 7 56 Tryz.underlying235 hinf hz0 hz1 hz2 rfl (by decide) _ _ _ rfl hown ⟨W2.drew.heap.size, 0, none⟩ 1 1 (bm [((v1, v2, v3), (id, q1, q2, q3))]) rfl rfl ?d2 (fun u hu => jo hu) ?d3 ?d4 ?d5 ?_
    case d2 => first | exact fun j u h => h | exact iZ _ _ _
    case d3 => omega
    case d4 => omega
    case d5 => first | omega | (simp; omega)
    intro v7 V7 hown7 hgrow7
    have neb : ∀ z, z < w.heap.size ∨ tb ≤ z → some z ≠ u7.ownBlock := fun z hz e => by have := yy HU z e.symm; omega
    have HB8 : Hid (Below w.heap.size w V7) := yz (B5.trans ⟨hgrow7.os, hgrow7.tape, hgrow7.output, hgrow7.size, fun z hz => hgrow7.block z (by simp; omega) (neb z (.inl hz))⟩)
    have c0' := bf c0 hgrow7 (neb _ (.inl hbb))
    have c1' := bf c1 hgrow7 (neb _ (.inl hbb))
    have c2' := bf c2 hgrow7 (neb _ (.inl hbb))
    have d0' := bf d0 hgrow7 (neb _ (.inr (Nat.le_refl _)))
    have d1' := bf d1 hgrow7 (neb _ (.inr (Nat.le_refl _)))
    have d2' := bf d2 hgrow7 (neb _ (.inr (Nat.le_refl _)))
    have d3' := bf d3 hgrow7 (neb _ (.inr (Nat.le_refl _)))
    have HO8 : Hid (V7.ownsRow w.heap.size 238 7 v7 (aq L S ids (i + 1)).length (bm (aq L S ids (i + 1)))) := yz (by rw [yy HSN, jT, List.length_append]; exact hown7)
    clear hown7 hgrow7 hown B5 c0 c1 c2 d0 d1 d2 d3 neb
    refine hK.out _ _ ?_ (fun hHeld4 => ?_)
    ·exact ⟨⟨c0', c1', c2'⟩, d0', d1', d2', d3'⟩
    clear hK K hHeld3
    refine af 9 rfl fun K hK => ?_
    go_simp
    refine hK.out _ _ ?_ (fun hHeld5 => ?_)
    ·exact ⟨⟨c0', c1', c2'⟩, d0', d1', d2', d3'⟩
    clear hK K hHeld4
    refine wpAnyH_done (by kernel_rfl) ?_ _
    clear c0' c1' c2' d0' d1' d2' d3' hHeld5
    go_wp2_with fail
    go_roundw
    case rel => exact ⟨i + 1, by omega, by go_num, HO8, HB8⟩
    case measure => simp [intOf] <;> omega
  ·have hin' : i = n := by omega
   subst hin'
   go_wp2_with fail
   go_ret
   exact ⟨⟨_, rfl, yy HO⟩, yy HB⟩
end
section
open Go.RowKit Go.Sort
theorem rR {L : List St} {S : List D3} {ids : List Int} (h : be L = false) : bd L S ids = false := by unfold bd; rw [h]; rfl
theorem rp {L : List St} {S : List D3} {ids : List Int} (h : aQ S = false) : bd L S ids = false := by unfold bd; rw [h, Bool.and_false]; rfl
theorem rC {L : List St} {S : List D3} {ids : List Int} (h : ids.length ≠ S.length) : bd L S ids = false := by unfold bd; rw [decide_eq_false h, Bool.and_false]; rfl
theorem rx {L : List St} {S : List D3} {ids : List Int} (h1 : be L = true) (h2 : aQ S = true) (h3 : ids.length = S.length) : bd L S ids = fp (aq L S ids ids.length) (aq L S ids ids.length).length := by unfold bd; rw [h1, h2, decide_eq_true h3]; rfl
theorem pe {A : List Sg} {n : Nat} (h : ∀ i, i < n → (!iB (sgA A i).2.2 && bM A (sgA A i) i) = true) : fp A n = true := by
 unfold fp
 rw [List.all_eq_true]
 exact fun i hi => h i (List.mem_range.1 hi)
theorem ly {A : List Sg} {n i : Nat} (hi : i < n) (h : (!iB (sgA A i).2.2 && bM A (sgA A i) i) = false) : fp A n = false := by
 unfold fp
 rw [List.all_eq_false]
 exact ⟨i, List.mem_range.2 hi, by rw [h]; simp⟩
theorem kC {w : World} {B : Nat} {a : Option Addr} {c n m : Nat} {t : TypeId} {xs : List Value} (h : w.ownsRow B t m (.slice a n c) n xs) : c ≤ maxLen := by
 rcases h.2 with ⟨h1, h0⟩ | ⟨g, cap, cur, hv, hb, hg, hnc, hcm, hcs, htake⟩
 ·injection h1 with _ e2 e3
  omega
 ·injection hv with e1 e2 e3
  omega
theorem lw (L : List St) (S : List D3) (ids : List Int) (ar br ir : Option Addr) (cr dr er : Nat) (p : Addr) (w : World) (hn : L.length ≤ 1048576) (hcap : L.length ≤ cr) (hc9 : cr ≤ 9223372036854775807) (hn2 : S.length ≤ 1048576) (hcap2 : S.length ≤ dr) (hd9 : dr ≤ 9223372036854775807) (hn3 : ids.length ≤ 1048576) (hS : aL w ar L L.length) (hD : bG w br S S.length) (hI : fR w ir ids ids.length) (hE : aW p w) :
  Calls Tryz.prog 202 #[.slice ar L.length cr, .slice br S.length dr, .slice ir ids.length er] w fun e w' => e = .returned (.bool (bd L S ids)) ∧ Below w.heap.size w w' := by
 have cK := yz (fun (W : World) hW hE => bY L ar cr p W hn hcap hc9 hW hE)
 have cP := yz (fun (W : World) hW => di S br dr W hn2 hcap2 hd9 hW)
 have cO : Hid (be L = true → S.length ≤ 6 → ids.length = S.length → ∀ W : World, aL W ar L L.length → bG W br S S.length → fR W ir ids ids.length → aW p W → Calls Tryz.prog 203 #[.slice ar L.length cr, .slice br S.length dr, .slice ir ids.length er] W fun e w' => (∃ v, e = .returned v ∧ w'.ownsRow W.heap.size 238 7 v (aq L S ids ids.length).length (bm (aq L S ids ids.length))) ∧ Below W.heap.size W w') := yz (fun hk hm hl W h1 h2 h3 h4 => im L S ids ids.length ar br ir cr dr er p W hk hn hcap hc9 hm hl h1 h2 h3 h4)
 have H1 : Hid (be L = false → bd L S ids = false) := yz rR
 have H2 : Hid (aQ S = false → bd L S ids = false) := yz rp
 have H3 : Hid (ids.length ≠ S.length → bd L S ids = false) := yz rC
 have H4 : Hid (be L = true → aQ S = true → ids.length = S.length → bd L S ids = fp (aq L S ids ids.length) (aq L S ids ids.length).length) := yz rx
 have H6 : Hid (aQ S = true → S.length ≤ 6) := yz (fun h => (em h).1)
 have hAL := ec L S ids ids.length
 have HS := yz hS
 have HD := yz hD
 have HI := yz hI
 have HE := yz hE
 clear hS hD hI hE
 generalize bd L S ids = R at *
 generalize aq L S ids ids.length = A at *
 generalize S.length = m at *
 generalize ids.length = k at *
 generalize L.length = n at *
 go_enter Tryz.func202, Tryz.ntmps202
 go_wp2_with fail
 refine (yy cK _ (yy HS) (yy HE)).mono ?_
 rintro e W1 ⟨rfl, hx⟩
 have B1 := yz hx
 clear hx
 cases hk : be L
 ·obtain rfl := yy H1 hk
  go_wp2_with fail
  go_ret
  exact ⟨rfl, yy B1⟩
 go_wp2_with fail
 refine (yy cP _ ((yy HD).kept (yy B1))).mono ?_
 rintro e W2 ⟨rfl, hx⟩
 have B2 := yz (ak (yy B1) hx)
 clear hx B1
 cases hp : aQ S
 ·obtain rfl := yy H2 hp
  go_wp2_with fail
  go_ret
  exact ⟨rfl, yy B2⟩
 by_cases hl0 : k ≠ m
 ·obtain rfl := yy H3 hl0
  have hl' : ¬ (k : Int) = (m : Int) := by omega
  have hl2 : ((k : Int) == (m : Int)) = false := by simp; omega
  go_wp2_with fail
  go_ret
  exact ⟨rfl, yy B2⟩
 have hl : k = m := Decidable.not_not.1 hl0
 clear hl0
 have HR := yz (yy H4 hk hp hl)
 have hm6 := yy H6 hp
 have cO' := yz (yy cO hk hm6 hl)
 subst hl
 clear hk hp H1 H2 H3 H4 H6 cK cP cO
 go_wp2_with fail
 refine (yy cO' _ ((yy HS).kept (yy B2)) ((yy HD).kept (yy B2)) ((yy HI).kept (yy B2)) ((yy HE).kept (yy B2))).mono ?_
 rintro e W3 ⟨⟨v3, rfl, ho⟩, hx⟩
 obtain ⟨a3, c3, rfl⟩ := sA ho
 have hcap3 := pX ho (by omega)
 have HSG := yz (gG ho)
 have B3 := yz (ak (yy B2) hx)
 have hc39 : c3 ≤ 9223372036854775807 := Nat.le_trans (kC ho) (by decide +kernel)
 clear ho hx B2 cO'
 generalize hal : A.length = al at *
 clear hal
 have cF : Hid (∀ (s : Sg) (i : Nat) (a : Option Addr) (W : World), i ≤ al → ce W a A i → Calls Tryz.prog 182 #[sgV s, .slice a i c3] W fun e w' => e = .returned (.bool (bM A s i)) ∧ Below W.heap.size W w') := yz (fun s i a W hi hs => fS A i s a c3 W (by omega) (by omega) hc39 hs)
 go_wp2_with fail
 rcases yy HSG with h0 | ⟨sb, so, rfl, hsb, hsc⟩
 ·subst h0
  have HY : Hid (R = true) := yz (by rw [yy HR]; rfl)
  refine wp_loop_rounds 1 ?_
  rw [rounds_succ]
  go_wp2_with fail
  go_ret
  exact ⟨by rw [yy HY]; rfl, yy B3⟩
 have HSC := yz hsc
 clear hsc
 have hsb3 : sb < W3.heap.size := hsb
 go_loopw [31] (fun kk wr => ∃ i : Nat, i ≤ al ∧ kk = .int .i64 i ∧ Hid (∀ j, j < i → (!iB (sgA A j).2.2 && bM A (sgA A j) j) = true) ∧ Hid (Below W3.heap.size W3 wr)) (fun kk _ => al - (intOf kk).toNat)
 case atStart => exact ⟨0, by omega, rfl, yz (fun j hj => absurd hj (Nat.not_lt_zero _)), yz (Below.refl _ _)⟩
 case round =>
  obtain ⟨i, hi, rfl, HF, HB⟩ := hrel
  by_cases hin : i < al
  ·have hin2 : (i : Int) < (al : Int) := by omega
   obtain ⟨t, ht⟩ : ∃ t, sgA A i = t := ⟨_, rfl⟩
   have hst := ((yy HSC) i hin).kept (yy HB)
   rw [ht] at hst
   have HT := yz ht
   clear ht
   have HSi : Hid (ce wr (some ⟨sb, so, none⟩) A i) := yz ((((yy HSG).less (Nat.le_of_lt hin))).kept (yy HB))
   have cFi := yz (fun W h => yy cF t i (some ⟨sb, so, none⟩) W (Nat.le_of_lt hin) h)
   have HOK : Hid ((!iB (sgA A i).2.2 && bM A (sgA A i) i) = (!iB t.2.2 && bM A t i)) := yz (by rw [yy HT])
   have Z := an wr (.cells #[.int .i64 t.1.1, .int .i64 t.1.2.1, .int .i64 t.1.2.2, .int .i64 t.2.1, .int .i64 t.2.2.1, .int .i64 t.2.2.2.1, .int .i64 t.2.2.2.2] 238)
   have T1 := cY wr t 238
   have HB1 := yz (ak (yy HB) Z)
   have HS1 := yz ((yy HSi).kept Z)
   clear Z HB HSi
   generalize hfv : bM A t i = fv at *
   clear hfv
   obtain ⟨⟨b1, b2, b3⟩, b4, b5, b6, b7⟩ := t
   have cFj : Hid (∀ (W : World), ce W (some ⟨sb, so, none⟩) A i → Calls Tryz.prog 182 #[.agg #[.int .i64 b1, .int .i64 b2, .int .i64 b3, .int .i64 b4, .int .i64 b5, .int .i64 b6, .int .i64 b7], .slice (some ⟨sb, so, none⟩) i c3] W fun e w' => e = .returned (.bool fv) ∧ Below W.heap.size W w') := cFi
   clear cFi
   have HOK' : Hid ((!iB (sgA A i).2.2 && bM A (sgA A i) i) = (!eqB b5 b6 b7 0 0 0 && fv)) := HOK
   clear HOK
   have he := fun W => qr b5 b6 b7 0 0 0 W
   obtain ⟨c0, c1, c2, c3', c4, c5, c6⟩ := hst
   simp only at c0 c1 c2 c3' c4 c5 c6 T1 HB1 HS1
   go_wp2_with fail
   clear c0 c1 c2 c3' c4 c5 c6
   generalize wr.alloc (.cells #[.int .i64 b1, .int .i64 b2, .int .i64 b3, .int .i64 b4, .int .i64 b5, .int .i64 b6, .int .i64 b7] 238) = W4 at T1 HB1 HS1 ⊢
   generalize wr.heap.size = tb at *
   obtain ⟨x0, x1, x2, x3, x4, x5, x6⟩ := T1
   simp only [Nat.zero_add] at x0 x1 x2 x3 x4 x5 x6
   have r0 := cell_regrown x0
   have r1 := cell_regrown x1
   have r2 := cell_regrown x2
   have r3 := cell_regrown x3
   have r4 := cell_regrown x4
   have r5 := cell_regrown x5
   have r6 := cell_regrown x6
   clear x0 x1 x2 x3 x4 x5 x6
   have hic : (i : Int) ≤ (c3 : Int) := by omega
   cases hz : eqB b5 b6 b7 0 0 0
   ·rw [hz] at he HOK'
    rw [Bool.not_false, Bool.true_and] at HOK'
    refine wp_region_quiet_below (by kernel_rfl) (by kernel_rfl) ?_
    repeat (go_big_quiet_step (first | (with_reducible exact Calls.regrown_of (yy cFj _ ((yy HS1).kept (below_regrown _ _ _))))))
    refine wpQuiet_nil ?_
    intro _ hw'
    obtain ⟨⟨dq, osq⟩, hw''⟩ := hw'
    subst hw''
    have hx := ak (yy HB1) (below_regrown W4 dq osq)
    generalize grow (redrawn W4 dq) osq = W5 at hx ⊢
    have HB5 := yz hx
    clear hx r0 r1 r2 r3 r4 r5 r6 he cFj HS1 HB1
    cases fv
    ·have HNO : Hid (R = false) := yz (by rw [yy HR]; exact ly hin (yy HOK'))
     go_wp2_with fail
     go_ret
     exact ⟨by rw [yy HNO]; rfl, (yy B3).trans ((yy HB5).mono (yy B3).size)⟩
    ·go_wp2_with fail
     go_roundw
     case rel => exact ⟨i + 1, by omega, by go_num, yz (fun l hl => by
      by_cases e : l = i
      ·rw [e]; exact yy HOK'
      ·exact yy HF l (by omega)), HB5⟩
     case measure => simp [intOf] <;> omega
   ·rw [hz] at he HOK'
    have HNO : Hid (R = false) := yz (by rw [yy HR]; exact ly hin (yy HOK'))
    refine wp_region_quiet_below (by kernel_rfl) (by kernel_rfl) ?_
    repeat (go_big_quiet_step (fail))
    refine wpQuiet_nil ?_
    intro _ hw'
    obtain ⟨⟨dq, osq⟩, hw''⟩ := hw'
    subst hw''
    have hx := ak (yy HB1) (below_regrown W4 dq osq)
    generalize grow (redrawn W4 dq) osq = W5 at hx ⊢
    go_wp2_with fail
    go_ret
    exact ⟨by rw [yy HNO]; rfl, (yy B3).trans (hx.mono (yy B3).size)⟩
  ·have hin' : i = al := by omega
   subst hin'
   have HY : Hid (R = true) := yz (by rw [yy HR]; exact pe (yy HF))
   go_wp2_with fail
   go_ret
   exact ⟨by rw [yy HY]; rfl, (yy B3).trans ((yy HB).mono (yy B3).size)⟩
theorem bG.sub {w : World} {a : Option Addr} {L : List D3} {n m : Nat} (h : bG w a L n) (hm : m ≤ n) : bG w a L m := h.less hm
theorem fR.less {w : World} {a : Option Addr} {L : List Int} {n m : Nat} (h : fR w a L n) (hm : m ≤ n) : fR w a L m := by
 rcases h with h | ⟨b, o, ha, hb, hc⟩
 ·exact .inl (by omega)
 ·exact .inr ⟨b, o, ha, hb, fun i hi => hc i (by omega)⟩
def ms (w : World) (b : Nat) (v0 v1 v2 : Value) (c m : Int) : Prop := w.cell? ⟨b, 0, none⟩ = some v0 ∧ w.cell? ⟨b, 1, none⟩ = some v1 ∧ w.cell? ⟨b, 2, none⟩ = some v2 ∧ w.cell? ⟨b, 3, none⟩ = some (.int .i64 c) ∧ w.cell? ⟨b, 4, none⟩ = some (.int .i64 m)
theorem aU {w w' : World} {a : Addr} {v : Value} (h : w.cell? a = some v) (hB : Below w.heap.size w w') : w'.cell? a = some v := (hB.cell (World.block_lt_of_cell? w a h)).trans h
theorem dN {w w' : World} {a : Addr} {v : Value} {row : Option Nat} (h : w.cell? a = some v) (hg : w.grownBy w' row) (hne : some a.block ≠ row) : w'.cell? a = some v := (World.cell?_of_block (hg.block a.block (World.block_lt_of_cell? w a h) hne)).trans h
theorem ms.kept {w w' : World} {b : Nat} {v0 v1 v2 : Value} {c m : Int} (h : ms w b v0 v1 v2 c m) (hB : Below w.heap.size w w') : ms w' b v0 v1 v2 c m := ⟨aU h.1 hB, aU h.2.1 hB, aU h.2.2.1 hB, aU h.2.2.2.1 hB, aU h.2.2.2.2 hB⟩
theorem ms.lt {w : World} {b : Nat} {v0 v1 v2 : Value} {c m : Int} (h : ms w b v0 v1 v2 c m) : b < w.heap.size := World.block_lt_of_cell? w _ h.1
def fQ (w : World) (b : Nat) : Prop := ∀ i, w.frozen? ⟨b, i, none⟩ = false
theorem fQ.kept {w w' : World} {b : Nat} (h : fQ w b) (hb : b < w.heap.size) (hB : Below w.heap.size w w') : fQ w' b := fun i => (hB.frozen (p := ⟨b, i, none⟩) hb).trans (h i)
theorem fQ.set {w : World} {b : Nat} (h : fQ w b) (p : Addr) (v : Value) : fQ (w.setCell p v) b := fun i => by rw [World.frozen?_setCell]; exact h i
def tZ (w : World) (x : Nat) (ir : Option Addr) (ids : List Int) : Prop := (ids = [] ∧ ir = none) ∨ ∃ g, ir = some ⟨g, 0, none⟩ ∧ g ≠ x ∧ g < w.heap.size ∧ ∀ i, i < ids.length → w.cell? ⟨g, i, none⟩ = some (.int .i64 (ids.getD i 0))
theorem tZ.grown {w w' : World} {x : Nat} {ir : Option Addr} {ids : List Int} (h : tZ w x ir ids) (hg : w.grownBy w' (some x)) : tZ w' x ir ids := by
 rcases h with h | ⟨g, hi, hn, hl, hc⟩
 ·exact .inl h
 ·exact .inr ⟨g, hi, hn, Nat.lt_of_lt_of_le hl hg.size, fun i hi => dN (hc i hi) hg (fun e => hn (Option.some.inj e))⟩
def ts (a : Option Addr) (x : Nat) : Prop := ∀ y, a = some y → y.block ≠ x
structure vJ (w : World) (x : Nat) (L : List St) (S : List D3) (ar br : Option Addr) (cr dr : Nat) (s : SeN) : Prop where
 cells : ∃ v, ms w x (.slice ar L.length cr) (.slice br S.length dr) v (s.count : Int) (s.many : Int) ∧ w.ownsRow (x + 1) 2 1 v s.best.length (intL s.best)
 free : fQ w x
 stars : aL w ar L L.length
 dirs : bG w br S S.length
 apS : ts ar x
 apD : ts br x
theorem ownK {w w' : World} {B n m : Nat} {t : TypeId} {v : Value} {xs : List Value} (h : w.ownsRow B t m v n xs) (hB : Below w.heap.size w w') : w'.ownsRow B t m v n xs := by
 obtain ⟨h1, h2⟩ := h
 refine ⟨h1, ?_⟩
 rcases h2 with h2 | ⟨g, c', cur, e, hg, hh, r⟩
 ·exact .inl h2
 ·exact .inr ⟨g, c', cur, e, hg, by rw [hB.block g (Array.getElem?_eq_some_iff.1 hh).1]; exact hh, r⟩
theorem gh {w w' : World} {x : Nat} (h : Below w.heap.size w w') : w.grownBy w' (some x) := ⟨h.os, h.tape, h.output, h.size, fun k hk _ => h.block k hk⟩
theorem vJ.kept {w w' : World} {x : Nat} {L : List St} {S : List D3} {ar br : Option Addr} {cr dr : Nat} {s : SeN} (h : vJ w x L S ar br cr dr s) (hB : Below w.heap.size w w') : vJ w' x L S ar br cr dr s := by
 obtain ⟨⟨v, h1, h2⟩, hf, hs, hd, a1, a2⟩ := h
 exact ⟨⟨v, h1.kept hB, ownK h2 hB⟩, hf.kept h1.lt hB, hs.kept hB, hd.kept hB, a1, a2⟩
def eM (L : List St) (S : List D3) (ids : List Int) (a : Int) : Bool := tY L S ids (vA S ids.length, (a, atV L L.length a)) ids.length
theorem tL {w : World} {B n m : Nat} {t : TypeId} {v : Value} {xs : List Value} (h : w.ownsRow B t m v n xs) : ∃ a cap, v = .slice a n cap := by
 rcases h.2 with ⟨h1, h0⟩ | ⟨g, c', cur, e, _⟩
 ·exact ⟨none, 0, by rw [h1, h0]⟩
 ·exact ⟨_, _, e⟩
theorem ms.grown {w w' : World} {b : Nat} {v0 v1 v2 : Value} {c m : Int} {row : Option Nat} (h : ms w b v0 v1 v2 c m) (hg : w.grownBy w' row) (hne : some b ≠ row) : ms w' b v0 v1 v2 c m := ⟨dN h.1 hg hne, dN h.2.1 hg hne, dN h.2.2.1 hg hne, dN h.2.2.2.1 hg hne, dN h.2.2.2.2 hg hne⟩
theorem fQ.grown {w w' : World} {b : Nat} {row : Option Nat} (h : fQ w b) (hb : b < w.heap.size) (hg : w.grownBy w' row) (hne : some b ≠ row) : fQ w' b := fun i => by
 have h1 := h i
 unfold World.frozen? at h1 ⊢
 rw [hg.block b hb hne]
 exact h1
theorem vK {L : List St} {i : Nat} (hi : i < L.length) : (L.map (·.1)).getD i 0 = (stA L i).1 := by
 unfold stA
 rw [List.getD_eq_getElem?_getD, List.getElem?_map, List.getD_eq_getElem?_getD, List.getElem?_eq_getElem hi]
 rfl
theorem pr {L : List St} (hk : be L = true) {i : Nat} (hi : i < L.length) : ba (atV L L.length (stA L i).1).1 (atV L L.length (stA L i).1).2.1 (atV L L.length (stA L i).1).2.2 = true ∧ (stA L i).1 ≠ 0 := by
 rw [oP hk hi]
 have h := (dg hk).2 i hi
 unfold fl at h
 simp only [Bool.and_eq_true] at h
 refine ⟨?_, fun e => ?_⟩
 ·simp_all
 ·have : idB (stA L i).1 = true := by simp_all
  rw [e] at this
  exact absurd this (by decide)
end
section
open Go.RowKit Go.Sort
def idR (L : List St) (S : List D3) : SeN := kL (eM L S) (L.map (·.1)) S.length [] ⟨[], 3, 0⟩
def oD (L : List St) (S : List D3) : List Int := if (idR L S).many = 1 then (idR L S).best else []
def qo (L : List St) (S : List D3) : Int := if (idR L S).many = 1 then ((idR L S).count : Int) else 0
def kt (L : List St) (S : List D3) : Int := if (idR L S).many = 0 then 6 else if 1 < (idR L S).many then 11 else 0
def IdO (w : World) (b : Nat) (v : Value) (c k : Int) : Prop := w.cell? ⟨b, 0, none⟩ = some v ∧ w.cell? ⟨b, 1, none⟩ = some (.int .i64 c) ∧ w.cell? ⟨b, 2, none⟩ = some (.int .i64 k)
theorem IdO.grown {w w' : World} {b : Nat} {v : Value} {c k : Int} {row : Option Nat} (h : IdO w b v c k) (hg : w.grownBy w' row) (hne : some b ≠ row) : IdO w' b v c k := ⟨dN h.1 hg hne, dN h.2.1 hg hne, dN h.2.2 hg hne⟩
theorem IdO.kept {w w' : World} {b : Nat} {v : Value} {c k : Int} (h : IdO w b v c k) (hB : Below w.heap.size w w') : IdO w' b v c k := ⟨aU h.1 hB, aU h.2.1 hB, aU h.2.2 hB⟩
theorem hZ {w : World} {b : Nat} {v0 : Value} {c0 k0 : Int} (h : IdO w b v0 c0 k0) (v : Value) (c k : Int) : IdO (((w.setCell ⟨b, 0, none⟩ v).setCell ⟨b, 1, none⟩ (.int .i64 c)).setCell ⟨b, 2, none⟩ (.int .i64 k)) b v c k := by
 obtain ⟨h0, h1, h2⟩ := h
 refine ⟨?_, ?_, ?_⟩ <;> simp [go_sem, h0, h1, h2]
end
section
open Go.RowKit Go.Sort
def kN (L : List St) (S : List D3) : Bool := be L && aQ S
def aV (L : List St) (S : List D3) : List Int := if 400 < L.length ∨ 400 < S.length then [] else if kN L S = true then oD L S else []
def dl (L : List St) (S : List D3) : Int := if 400 < L.length ∨ 400 < S.length then 0 else if kN L S = true then qo L S else 0
def bg (L : List St) (S : List D3) : Int := if 400 < L.length ∨ 400 < S.length then 2 else if kN L S = true then kt L S else 1
theorem lz {L : List St} {S : List D3} (h : 400 < L.length ∨ 400 < S.length) : aV L S = [] ∧ dl L S = 0 ∧ bg L S = 2 := by unfold aV dl bg; rw [if_pos h, if_pos h, if_pos h]; exact ⟨rfl, rfl, rfl⟩
theorem le {L : List St} {S : List D3} (h : ¬ (400 < L.length ∨ 400 < S.length)) (h1 : kN L S = false) : aV L S = [] ∧ dl L S = 0 ∧ bg L S = 1 := by unfold aV dl bg; rw [if_neg h, if_neg h, if_neg h, h1]; exact ⟨rfl, rfl, rfl⟩
theorem lW {L : List St} {S : List D3} (h : ¬ (400 < L.length ∨ 400 < S.length)) (h1 : kN L S = true) : aV L S = oD L S ∧ dl L S = qo L S ∧ bg L S = kt L S := by unfold aV dl bg; rw [if_neg h, if_neg h, if_neg h, if_pos h1, if_pos h1, if_pos h1]; exact ⟨rfl, rfl, rfl⟩
def stV (s : St) : Value := .agg #[.int .i64 s.1, .int .i64 s.2.1, .int .i64 s.2.2.1, .int .i64 s.2.2.2]
def jh (s : St) : DataW Unit := .agg [.lit (.int .i64 s.1), .lit (.int .i64 s.2.1), .lit (.int .i64 s.2.2.1), .lit (.int .i64 s.2.2.2)]
def kS (v : Value) : Option (DataW Unit × List MemPlace) := match v with
 | .agg ⟨[.int .i64 a, .int .i64 b, .int .i64 c, .int .i64 d]⟩ => some (jh (a, b, c, d), [])
 | _ => none
theorem kF (s : St) : kS (stV s) = some (jh s, []) := rfl
theorem lP {v : Value} {s : St} {ps : List MemPlace} (h : kS v = some (jh s, ps)) : v = stV s := by
 unfold kS at h
 split at h
 ·simp only [Option.some.injEq, Prod.mk.injEq, jh, DataW.agg.injEq, List.cons.injEq, DataW.lit.injEq, Lit.int.injEq, true_and, and_true] at h
  obtain ⟨⟨h1, h2, h3, h4⟩, _⟩ := h
  subst h1 h2 h3 h4
  rfl
 ·cases h
def kx : St := (0, 0, 0, 0)
def bI (L : List St) (ids : List Int) (i : Nat) : St := if ids.getD i 0 ≠ 0 then (ids.getD i 0, atV L L.length (ids.getD i 0)) else kx
def gr (D : DataW Unit) (L : List St) (ids : List Int) : Prop := ∀ i : Nat, i < 7 → Maps.has D (.int .i64 (i : Int)) = decide (ids.getD i 0 ≠ 0) ∧ D.atKey (.int .i64 (i : Int)) (jh kx) = jh (bI L ids i)
def aX (w : World) (b n : Nat) (L : List St) (ids : List Int) : Prop := ∃ D, w.ownsMap Tryz.prog 3 kS b n D ∧ gr D L ids
theorem vu (i : Nat) (h : i < 7) : (Lit.int .i64 (i : Int)).wf = true := by
 rcases (by omega : i = 0 ∨ i = 1 ∨ i = 2 ∨ i = 3 ∨ i = 4 ∨ i = 5 ∨ i = 6) with rfl | rfl | rfl | rfl | rfl | rfl | rfl <;> decide
theorem uH (i : Nat) (h : i < 7) : keyOf Tryz.prog 3 (.int .i64 (i : Int)) = some (.int .i64 (i : Int)) := Maps.keyOf_int_mk Tryz.underlying3 (vu i h)
theorem om (w : World) : (zeroValue 74).run Tryz.prog w = .ok (stV kx) w := by kernel_rfl
theorem aX.look {w : World} {b n : Nat} {L : List St} {ids : List Int} (h : aX w b n L ids) (i : Nat) (hi : i < 7) : (Instr.lookup 209 (.map (some b)) (.int .i64 (i : Int)) false).run Tryz.prog w = .ok (stV (bI L ids i)) w := by
 obtain ⟨D, hD, hM⟩ := h
 obtain ⟨v, ps, hr, hv⟩ := hD.lookup (Maps.int_keyed Tryz.underlying3) Tryz.underlying209 (om w) (kF kx) (uH i hi)
 rw [(hM i hi).2] at hv
 rw [lP hv] at hr
 exact hr
theorem aX.lookOk {w : World} {b n : Nat} {L : List St} {ids : List Int} (h : aX w b n L ids) (i : Nat) (hi : i < 7) : (Instr.lookup 209 (.map (some b)) (.int .i64 (i : Int)) true).run Tryz.prog w = .ok (.tuple #[stV (bI L ids i), .bool (decide (ids.getD i 0 ≠ 0))]) w := by
 obtain ⟨D, hD, hM⟩ := h
 obtain ⟨v, ps, hr, hv⟩ := hD.look_ok (Maps.int_keyed Tryz.underlying3) Tryz.underlying209 (om w) (kF kx) (uH i hi)
 rw [(hM i hi).2] at hv
 rw [lP hv, (hM i hi).1] at hr
 exact hr
theorem aX.kept {w w' : World} {b n : Nat} {L : List St} {ids : List Int} {row : Option Nat} (h : aX w b n L ids) (hg : w.grownBy w' row) (hne : some b ≠ row) : aX w' b n L ids := by
 obtain ⟨D, hD, hM⟩ := h
 exact ⟨D, hD.kept hg hne, hM⟩
theorem uD (L : List St) (ids : List Int) (i : Nat) : (bI L ids i).1 = ids.getD i 0 := by
 unfold bI
 split
 ·rfl
 ·rename_i h
  have h0 : ids.getD i 0 = 0 := by simpa using h
  rw [h0]
  rfl
theorem aX.below {w w' : World} {b n : Nat} {L : List St} {ids : List Int} (h : aX w b n L ids) (hB : Below w.heap.size w w') : aX w' b n L ids := h.kept (row := none) ⟨hB.os, hB.tape, hB.output, hB.size, fun k hk _ => hB.block k hk⟩ (by simp)
def lf (w : World) (b : Nat) (v0 v1 v2 : Value) : Prop := w.cell? ⟨b, 0, none⟩ = some v0 ∧ w.cell? ⟨b, 1, none⟩ = some v1 ∧ w.cell? ⟨b, 2, none⟩ = some v2
theorem lf.kept {w w' : World} {b : Nat} {v0 v1 v2 : Value} (h : lf w b v0 v1 v2) (hB : Below w.heap.size w w') : lf w' b v0 v1 v2 := ⟨aU h.1 hB, aU h.2.1 hB, aU h.2.2 hB⟩
theorem uC (L : List St) (ids : List Int) (m : Nat) (ar br : Option Addr) (nl cr dr b N : Nat) (w : World) (hm : m ≤ 6) (hN : aX w b N L ids) :
  Calls Tryz.prog 180 #[.agg #[.slice ar nl cr, .slice br m dr, .map (some b)]] w fun e w' => e = .returned (.slice (some ⟨w.heap.size + 1, 0, none⟩) m m) ∧ bt w' 2 (w.heap.size + 1) (m * 1) (jX ids) ∧ Below w.heap.size w w' := by
 have B0 := an w (.cells #[.slice ar nl cr, .slice br m dr, .map (some b)] 211)
 have C0 : lf (w.alloc (.cells #[.slice ar nl cr, .slice br m dr, .map (some b)] 211)) w.heap.size (.slice ar nl cr) (.slice br m dr) (.map (some b)) := by refine ⟨?_, ?_, ?_⟩ <;> simp
 have HN := yz (hN.below B0)
 have HC := yz C0
 have HB := yz B0
 have hsz : (w.alloc (.cells #[.slice ar nl cr, .slice br m dr, .map (some b)] 211)).heap.size = w.heap.size + 1 := by simp
 clear B0 C0 hN
 obtain ⟨i0, hi, hz0, hz1, hz2⟩ := info_parts oh
 go_enter Tryz.func180, Tryz.ntmps180
 go_wp2_with (at_make; refine wpList_make_full _ rfl _ _ 81 rfl (w.heap.size + 1) 2 i0 (.int .i64 0) 1 Tryz.underlying81 hi hz0 hz1 .i64 .i64 _ _ m rfl rfl rfl rfl (by rw [hz2]; omega) (by unfold maxLen; omega) (by simp) ?_; intro w0 hown0 hgrow0)
 have hzero : ∀ j, j < m * 1 → (madeCells (Value.int .i64 0).cells (m * 1)).toList[j]? = some (.int .i64 0) := by
  intro j hj
  have e : (Value.int .i64 0).cells = #[.int .i64 0] := rfl
  rw [e, toList_madeCells_one]
  simp at hj
  simp [hj]
 have H0 : Hid (bt w0 2 (w.heap.size + 1) (m * 1) (fun j => if j < 0 then jX ids j else .int .i64 0)) := yz (by
  have h := bt.made (v := .nilIface) hown0 hzero
  rw [hsz] at h
  exact h.congr (fun j hj => by rw [if_neg (by omega)]))
 have hb0 := fh hgrow0
 have HB0 := yz (ak (yy HB) hb0)
 have HN0 := yz ((yy HN).below hb0)
 have HC0 := yz ((yy HC).kept hb0)
 clear hown0 hgrow0 hzero hb0 HB HN HC hsz
 go_loopw [11] (fun i wr => ∃ k : Nat, k ≤ m ∧ i = .int .i64 k ∧ Hid (bt wr 2 (w.heap.size + 1) (m * 1) (fun j => if j < k then jX ids j else .int .i64 0)) ∧ Hid (Below w.heap.size w wr) ∧ Hid (aX wr b N L ids) ∧ Hid (lf wr w.heap.size (.slice ar nl cr) (.slice br m dr) (.map (some b)))) (fun i _ => m - (intOf i).toNat)
 case atStart => exact ⟨0, by omega, rfl, H0, HB0, HN0, HC0⟩
 case round =>
  clear H0 HB0 HN0 HC0
  obtain ⟨k, hk, rfl, HO, HB, HN, HC⟩ := hrel
  by_cases hkn : k < m
  ·have hr := (yy HN).look k (by omega)
   have HID : Hid (jX ids k = .int .i64 (bI L ids k).1) := yz (by rw [uD]; rfl)
   generalize bI L ids k = q at *
   obtain ⟨q1, q2, q3, q4⟩ := q
   unfold stV at hr
   dsimp only at hr HID
   have hkn2 : (k : Int) < (m : Int) := by omega
   have hfld : ∀ W : World, (Instr.field 74 (.agg #[.int .i64 q1, .int .i64 q2, .int .i64 q3, .int .i64 q4]) 0).run Tryz.prog W = .ok (.int .i64 q1) W := fun W => by kernel_rfl
   have e0 := (yy HO).cell (j := k) (by omega)
   have f0 := (yy HO).free k
   rw [if_neg (by omega)] at e0
   have hbN : b ≠ w.heap.size + 1 := fun e => by
    obtain ⟨D, ⟨es, cl, hh, _⟩, _⟩ := yy HN
    obtain ⟨cur, hc, _⟩ := yy HO
    rw [e, hc] at hh
    cases hh
   have HO3 : Hid (bt (wr.setCell ⟨w.heap.size + 1, k, none⟩ (.int .i64 q1)) 2 (w.heap.size + 1) (m * 1) (fun j => if j < k + 1 then jX ids j else .int .i64 0)) := yz (((yy HO).set k (.int .i64 q1)).congr (fun j hj => by
    by_cases h : j = k
    ·rw [if_pos h, if_pos (by omega), h, yy HID]
    ·rw [if_neg h]
     by_cases h2 : j < k
     ·rw [if_pos h2, if_pos (by omega)]
     ·rw [if_neg h2, if_neg (by omega)]))
   have HB3 := yz ((yy HB).setCell (show w.heap.size ≤ w.heap.size + 1 by omega) (.int .i64 q1) : Below w.heap.size w (wr.setCell ⟨w.heap.size + 1, k, none⟩ (.int .i64 q1)))
   have HN3 : Hid (aX (wr.setCell ⟨w.heap.size + 1, k, none⟩ (.int .i64 q1)) b N L ids) := yz ((yy HN).kept (row := some (w.heap.size + 1)) (gM (gm wr _) k (.int .i64 q1)) (fun e => hbN (Option.some.inj e)))
   obtain ⟨c0, c1, c2⟩ := yy HC
   have HC3 : Hid (lf (wr.setCell ⟨w.heap.size + 1, k, none⟩ (.int .i64 q1)) w.heap.size (.slice ar nl cr) (.slice br m dr) (.map (some b))) := yz (by
    have hne : some w.heap.size ≠ some (w.heap.size + 1) := fun e => by have := Option.some.inj e; omega
    exact ⟨dN c0 (gM (gm wr _) k (.int .i64 q1)) hne, dN c1 (gM (gm wr _) k (.int .i64 q1)) hne, dN c2 (gM (gm wr _) k (.int .i64 q1)) hne⟩)
   clear HO HB HN HC hbN
   go_wp2_with fail
   go_roundw
   case rel => first | exact ⟨k + 1, by omega, by go_num, HO3, HB3, HN3, HC3⟩ | trace_state
   case measure => simp [intOf]; omega
  ·have hkn' : k = m := by omega
   subst hkn'
   go_wp2_with fail
   go_ret
   exact ⟨rfl, (yy HO).congr (fun j hj => if_pos (by omega)), yy HB⟩
end
end Go.Proofs.YtdchjcadhlkpfaaGreatDoor
