/- Several texts in one: NaA, NaB, NaC, NaD, NaE. -/
import Derived.Deep.RegionHeld
import Derived.WalkMore
import Derived.Test.YtlleafjdgblhcaaGreatDoorQDeskRunOwn10
import Derived.Test.YtlleafjdgblhcaaGreatDoorQDeskRunOwn3
import Derived.Test.YtlleafjdgblhcaaGreatDoorQDeskRunOwn9
import Derived.Test.YtlleafjdgblhcaaGreatDoorQDeskRunOwn1
namespace Go.Proofs.YtlleafjdgblhcaaGreatDoor
set_option linter.unusedVariables false
set_option linter.unusedSimpArgs false
set_option maxRecDepth 100000
set_option maxHeartbeats 8000000
section
open Go.RowKit Go.Sort
def sgL (s : Sg) : List Value := [.int .i64 s.1.1, .int .i64 s.1.2.1, .int .i64 s.1.2.2, .int .i64 s.2.1, .int .i64 s.2.2.1, .int .i64 s.2.2.2.1, .int .i64 s.2.2.2.2]
def sgV (s : Sg) : Value := .agg #[.int .i64 s.1.1, .int .i64 s.1.2.1, .int .i64 s.1.2.2, .int .i64 s.2.1, .int .i64 s.2.2.1, .int .i64 s.2.2.2.1, .int .i64 s.2.2.2.2]
def pT (w : World) (b o : Nat) (s : Sg) : Prop := w.cell? ⟨b, o, none⟩ = some (.int .i64 s.1.1) ∧ w.cell? ⟨b, o + 1, none⟩ = some (.int .i64 s.1.2.1) ∧ w.cell? ⟨b, o + 2, none⟩ = some (.int .i64 s.1.2.2) ∧ w.cell? ⟨b, o + 3, none⟩ = some (.int .i64 s.2.1) ∧ w.cell? ⟨b, o + 4, none⟩ = some (.int .i64 s.2.2.1) ∧ w.cell? ⟨b, o + 5, none⟩ = some (.int .i64 s.2.2.2.1) ∧ w.cell? ⟨b, o + 6, none⟩ = some (.int .i64 s.2.2.2.2)
theorem pT.lt {w : World} {b o : Nat} {s : Sg} (h : pT w b o s) : b < w.heap.size := World.block_lt_of_cell? w _ h.1
theorem pT.kept {w w' : World} {b o : Nat} {s : Sg} (h : pT w b o s) (hB : Below w.heap.size w w') : pT w' b o s := by
 have hb := h.lt
 obtain ⟨h0, h1, h2, h3, h4, h5, h6⟩ := h
 exact ⟨by rw [hB.cell (p := ⟨b, o, none⟩) hb]; exact h0, by rw [hB.cell (p := ⟨b, o + 1, none⟩) hb]; exact h1, by rw [hB.cell (p := ⟨b, o + 2, none⟩) hb]; exact h2, by rw [hB.cell (p := ⟨b, o + 3, none⟩) hb]; exact h3, by rw [hB.cell (p := ⟨b, o + 4, none⟩) hb]; exact h4, by rw [hB.cell (p := ⟨b, o + 5, none⟩) hb]; exact h5, by rw [hB.cell (p := ⟨b, o + 6, none⟩) hb]; exact h6⟩
theorem fL (w : World) (s : Sg) (t : TypeId) : pT (w.alloc (.cells #[.int .i64 s.1.1, .int .i64 s.1.2.1, .int .i64 s.1.2.2, .int .i64 s.2.1, .int .i64 s.2.2.1, .int .i64 s.2.2.2.1, .int .i64 s.2.2.2.2] t)) w.heap.size 0 s := by
 refine ⟨?_, ?_, ?_, ?_, ?_, ?_, ?_⟩ <;> simp
def eT (w : World) (a : Option Addr) (A : List Sg) (n : Nat) : Prop := n = 0 ∨ ∃ b o, a = some ⟨b, o, none⟩ ∧ b < w.heap.size ∧ ∀ i, i < n → pT w b (o + i * 7) (sgA A i)
theorem eT.kept {w w' : World} {a : Option Addr} {A : List Sg} {n : Nat} (h : eT w a A n) (hB : Below w.heap.size w w') : eT w' a A n := by
 rcases h with h | ⟨b, o, ha, hb, hc⟩
 ·exact .inl h
 ·exact .inr ⟨b, o, ha, Nat.lt_of_lt_of_le hb hB.size, fun i hi => (hc i hi).kept hB⟩
theorem eT.less {w : World} {a : Option Addr} {A : List Sg} {n m : Nat} (h : eT w a A n) (hm : m ≤ n) : eT w a A m := by
 rcases h with h | ⟨b, o, ha, hb, hc⟩
 ·exact .inl (by omega)
 ·exact .inr ⟨b, o, ha, hb, fun i hi => hc i (by omega)⟩
theorem vJ (s t : Sg) (w : World) :
  Calls Tryz.prog 180 #[sgV s, sgV t] w fun e w' => e = .returned (.bool (jL s t)) ∧ Below w.heap.size w w' := by
 obtain ⟨⟨a1, a2, a3⟩, a4, a5, a6, a7⟩ := s
 obtain ⟨⟨b1, b2, b3⟩, b4, b5, b6, b7⟩ := t
 unfold sgV jL
 simp only
 have HB := yz (aO w (.cells #[.int .i64 a1, .int .i64 a2, .int .i64 a3, .int .i64 a4, .int .i64 a5, .int .i64 a6, .int .i64 a7] 228) (.cells #[.int .i64 b1, .int .i64 b2, .int .i64 b3, .int .i64 b4, .int .i64 b5, .int .i64 b6, .int .i64 b7] 228))
 go_enter Tryz.func180, Tryz.ntmps180
 go_wp2_with fail
 refine (xM b1 b2 b3 a1 a2 a3 b5 b6 b7 a5 a6 a7 _).mono ?_
 rintro e w1 ⟨rfl, hx⟩
 have HB1 := yz (ak (yy HB) hx)
 clear hx
 go_wp2_with fail
 go_ret
 exact ⟨rfl, yy HB1⟩
theorem sY (s f g : Sg) (w : World) :
  Calls Tryz.prog 181 #[sgV s, sgV f, sgV g] w fun e w' => e = .returned (.bool (dw s f g)) ∧ Below w.heap.size w w' := by
 have A0 := ((fL w s 228).kept (an _ (.cells #[.int .i64 f.1.1, .int .i64 f.1.2.1, .int .i64 f.1.2.2, .int .i64 f.2.1, .int .i64 f.2.2.1, .int .i64 f.2.2.2.1, .int .i64 f.2.2.2.2] 228))).kept (an _ (.cells #[.int .i64 g.1.1, .int .i64 g.1.2.1, .int .i64 g.1.2.2, .int .i64 g.2.1, .int .i64 g.2.2.1, .int .i64 g.2.2.2.1, .int .i64 g.2.2.2.2] 228))
 have F0 := (fL (w.alloc (.cells #[.int .i64 s.1.1, .int .i64 s.1.2.1, .int .i64 s.1.2.2, .int .i64 s.2.1, .int .i64 s.2.2.1, .int .i64 s.2.2.2.1, .int .i64 s.2.2.2.2] 228)) f 228).kept (an _ (.cells #[.int .i64 g.1.1, .int .i64 g.1.2.1, .int .i64 g.1.2.2, .int .i64 g.2.1, .int .i64 g.2.2.1, .int .i64 g.2.2.2.1, .int .i64 g.2.2.2.2] 228))
 have G0 := fL ((w.alloc (.cells #[.int .i64 s.1.1, .int .i64 s.1.2.1, .int .i64 s.1.2.2, .int .i64 s.2.1, .int .i64 s.2.2.1, .int .i64 s.2.2.2.1, .int .i64 s.2.2.2.2] 228)).alloc (.cells #[.int .i64 f.1.1, .int .i64 f.1.2.1, .int .i64 f.1.2.2, .int .i64 f.2.1, .int .i64 f.2.2.1, .int .i64 f.2.2.2.1, .int .i64 f.2.2.2.2] 228)) g 228
 have B0 := dW w (.cells #[.int .i64 s.1.1, .int .i64 s.1.2.1, .int .i64 s.1.2.2, .int .i64 s.2.1, .int .i64 s.2.2.1, .int .i64 s.2.2.2.1, .int .i64 s.2.2.2.2] 228) (.cells #[.int .i64 f.1.1, .int .i64 f.1.2.1, .int .i64 f.1.2.2, .int .i64 f.2.1, .int .i64 f.2.2.1, .int .i64 f.2.2.2.1, .int .i64 f.2.2.2.2] 228) (.cells #[.int .i64 g.1.1, .int .i64 g.1.2.1, .int .i64 g.1.2.2, .int .i64 g.2.1, .int .i64 g.2.2.1, .int .i64 g.2.2.2.1, .int .i64 g.2.2.2.2] 228)
 have e1 : (w.alloc (.cells #[.int .i64 s.1.1, .int .i64 s.1.2.1, .int .i64 s.1.2.2, .int .i64 s.2.1, .int .i64 s.2.2.1, .int .i64 s.2.2.2.1, .int .i64 s.2.2.2.2] 228)).heap.size = w.heap.size + 1 := by simp
 have e2 : ((w.alloc (.cells #[.int .i64 s.1.1, .int .i64 s.1.2.1, .int .i64 s.1.2.2, .int .i64 s.2.1, .int .i64 s.2.2.1, .int .i64 s.2.2.2.1, .int .i64 s.2.2.2.2] 228)).alloc (.cells #[.int .i64 f.1.1, .int .i64 f.1.2.1, .int .i64 f.1.2.2, .int .i64 f.2.1, .int .i64 f.2.2.1, .int .i64 f.2.2.2.1, .int .i64 f.2.2.2.2] 228)).heap.size = w.heap.size + 1 + 1 := by simp
 rw [e1] at F0
 rw [e2] at G0
 clear e1 e2
 obtain ⟨⟨a1, a2, a3⟩, a4, a5, a6, a7⟩ := s
 obtain ⟨⟨b1, b2, b3⟩, b4, b5, b6, b7⟩ := f
 obtain ⟨⟨c1, c2, c3⟩, c4, c5, c6, c7⟩ := g
 unfold sgV dw qK
 simp only at A0 F0 G0 B0 ⊢
 have cD := yz (fun W => yt b1 b2 b3 c1 c2 c3 a1 a2 a3 W)
 have cE := yz (fun W => yt b5 b6 b7 c5 c6 c7 a5 a6 a7 W)
 generalize rd b1 b2 b3 c1 c2 c3 a1 a2 a3 = d1 at *
 generalize rd b5 b6 b7 c5 c6 c7 a5 a6 a7 = d2 at *
 have cO := yz (fun W => ng d1 0 W)
 have cP := yz (fun W => ng d2 0 W)
 generalize gB d1 0 = o1 at *
 generalize gB d2 0 = o2 at *
 go_enter Tryz.func181, Tryz.ntmps181
 go_wp2_with fail
 generalize ((w.alloc (.cells #[.int .i64 a1, .int .i64 a2, .int .i64 a3, .int .i64 a4, .int .i64 a5, .int .i64 a6, .int .i64 a7] 228)).alloc (.cells #[.int .i64 b1, .int .i64 b2, .int .i64 b3, .int .i64 b4, .int .i64 b5, .int .i64 b6, .int .i64 b7] 228)).alloc (.cells #[.int .i64 c1, .int .i64 c2, .int .i64 c3, .int .i64 c4, .int .i64 c5, .int .i64 c6, .int .i64 c7] 228) = W0 at A0 F0 G0 B0 ⊢
 refine (yy cD _).mono ?_
 rintro e w1 ⟨rfl, hx⟩
 have A1 := A0.kept hx
 have F1 := F0.kept hx
 have G1 := G0.kept hx
 have B1 := ak B0 hx
 clear hx A0 F0 G0 B0
 go_wp2_with fail
 refine (yy cO _).mono ?_
 rintro e w2 ⟨rfl, rfl⟩
 obtain ⟨x0, x1, x2, x3, x4, x5, x6⟩ := A1
 obtain ⟨y0, y1, y2, y3, y4, y5, y6⟩ := F1
 obtain ⟨z0, z1, z2, z3, z4, z5, z6⟩ := G1
 simp only [Nat.zero_add] at x0 x1 x2 x3 x4 x5 x6 y0 y1 y2 y3 y4 y5 y6 z0 z1 z2 z3 z4 z5 z6
 go_wp2_with fail
 refine (yy cE _).mono ?_
 rintro e w3 ⟨rfl, hx⟩
 have B2 := ak B1 hx
 clear hx x0 x1 x2 x3 x4 x5 x6 y0 y1 y2 y3 y4 y5 y6 z0 z1 z2 z3 z4 z5 z6 B1
 go_wp2_with fail
 refine (yy cP _).mono ?_
 rintro e w4 ⟨rfl, rfl⟩
 go_wp2_with fail
 go_ret
 exact ⟨by first | rfl | simp [go_sem], B2⟩
theorem ki (A : List Sg) (n : Nat) (s : Sg) (a : Option Addr) (c : Nat) (w : World) (hn : n ≤ 1048576) (hcap : n ≤ c) (hc9 : c ≤ 9223372036854775807) (hS : eT w a A n) :
  Calls Tryz.prog 168 #[sgV s, .slice a n c] w fun e w' => e = .returned (.bool (ea A s n)) ∧ Below w.heap.size w w' := by
 have cF : Hid (∀ (t : Sg) (W : World), Calls Tryz.prog 180 #[sgV s, sgV t] W fun e w' => e = .returned (.bool (jL s t)) ∧ Below W.heap.size W w') := yz (fun t W => vJ s t W)
 have cS : Hid (∀ (f g : Sg) (W : World), Calls Tryz.prog 181 #[sgV s, sgV f, sgV g] W fun e w' => e = .returned (.bool (dw s f g)) ∧ Below W.heap.size W w') := yz (fun f g W => sY s f g W)
 have V0 := yz (fL w s 228)
 have B0 := yz (an w (.cells #[.int .i64 s.1.1, .int .i64 s.1.2.1, .int .i64 s.1.2.2, .int .i64 s.2.1, .int .i64 s.2.2.1, .int .i64 s.2.2.2.1, .int .i64 s.2.2.2.2] 228))
 obtain ⟨⟨a1, a2, a3⟩, a4, a5, a6, a7⟩ := s
 simp only at V0 B0
 have cF' : Hid (∀ (t : Sg) (W : World), Calls Tryz.prog 180 #[.agg #[.int .i64 a1, .int .i64 a2, .int .i64 a3, .int .i64 a4, .int .i64 a5, .int .i64 a6, .int .i64 a7], sgV t] W fun e w' => e = .returned (.bool (jL ((a1, a2, a3), a4, a5, a6, a7) t)) ∧ Below W.heap.size W w') := cF
 have cS' : Hid (∀ (f g : Sg) (W : World), Calls Tryz.prog 181 #[.agg #[.int .i64 a1, .int .i64 a2, .int .i64 a3, .int .i64 a4, .int .i64 a5, .int .i64 a6, .int .i64 a7], sgV f, sgV g] W fun e w' => e = .returned (.bool (dw ((a1, a2, a3), a4, a5, a6, a7) f g)) ∧ Below W.heap.size W w') := cS
 clear cF cS
 show Calls Tryz.prog 168 #[.agg #[.int .i64 a1, .int .i64 a2, .int .i64 a3, .int .i64 a4, .int .i64 a5, .int .i64 a6, .int .i64 a7], .slice a n c] w _
 rcases hS with rfl | ⟨b, o, rfl, hb, hc⟩
 ·go_enter Tryz.func168, Tryz.ntmps168
  go_wp2_with fail
  refine wp_loop_rounds 1 ?_
  rw [rounds_succ]
  go_wp2_with fail
  go_ret
  exact ⟨rfl, yy B0⟩
 have HC := yz hc
 clear hc
 obtain ⟨sg, hsg⟩ : ∃ sg : Sg, sg = ((a1, a2, a3), a4, a5, a6, a7) := ⟨_, rfl⟩
 rw [← hsg] at cF' cS' V0
 rw [← hsg]
 have HSG := yz hsg
 clear hsg
 go_enter Tryz.func168, Tryz.ntmps168
 go_wp2_with fail
 go_loopw [11] (fun i wr => ∃ k : Nat, k ≤ n ∧ i = .int .i64 k ∧ Hid (∀ j, j < k → ew A sg j = true) ∧ Hid (Below w.heap.size w wr) ∧ Hid (pT wr w.heap.size 0 sg)) (fun i _ => n - (intOf i).toNat)
 case atStart => exact ⟨0, by omega, rfl, yz (fun j hj => absurd hj (Nat.not_lt_zero _)), B0, V0⟩
 case round =>
  clear B0 V0
  obtain ⟨k, hk, rfl, HF, HB, HV⟩ := hrel
  by_cases hkn : k < n
  ·have hkn2 : (k : Int) < (n : Int) := by omega
   obtain ⟨t, ht⟩ : ∃ t, sgA A k = t := ⟨_, rfl⟩
   have hst := ((yy HC) k hkn).kept (yy HB)
   rw [ht] at hst
   have HT := yz ht
   clear ht
   have cFt := yz (yy cF' t)
   have cSt := yz (fun f W => yy cS' f t W)
   have HFA : Hid (∀ b, jL sg t = b → jL sg (sgA A k) = b) := yz (fun b h => by rw [yy HT]; exact h)
   have HID : Hid (sg.2.1 = a4) := yz (by rw [yy HSG])
   have HTI : Hid ((sgA A k).2.1 = t.2.1) := yz (by rw [yy HT])
   have Z := an wr (.cells #[.int .i64 t.1.1, .int .i64 t.1.2.1, .int .i64 t.1.2.2, .int .i64 t.2.1, .int .i64 t.2.2.1, .int .i64 t.2.2.2.1, .int .i64 t.2.2.2.2] 228)
   have T1 := yz (fL wr t 228)
   have HB1 := yz (ak (yy HB) Z)
   have HV1 := yz ((yy HV).kept Z)
   clear Z HB HV
   obtain ⟨⟨b1, b2, b3⟩, b4, b5, b6, b7⟩ := t
   have cFt' : Hid (∀ (W : World), Calls Tryz.prog 180 #[.agg #[.int .i64 a1, .int .i64 a2, .int .i64 a3, .int .i64 a4, .int .i64 a5, .int .i64 a6, .int .i64 a7], .agg #[.int .i64 b1, .int .i64 b2, .int .i64 b3, .int .i64 b4, .int .i64 b5, .int .i64 b6, .int .i64 b7]] W fun e w' => e = .returned (.bool (jL sg ((b1, b2, b3), b4, b5, b6, b7))) ∧ Below W.heap.size W w') := cFt
   have cSt' : Hid (∀ (f : Sg) (W : World), Calls Tryz.prog 181 #[.agg #[.int .i64 a1, .int .i64 a2, .int .i64 a3, .int .i64 a4, .int .i64 a5, .int .i64 a6, .int .i64 a7], sgV f, .agg #[.int .i64 b1, .int .i64 b2, .int .i64 b3, .int .i64 b4, .int .i64 b5, .int .i64 b6, .int .i64 b7]] W fun e w' => e = .returned (.bool (dw sg f ((b1, b2, b3), b4, b5, b6, b7))) ∧ Below W.heap.size W w') := cSt
   clear cFt cSt
   have HTI' : Hid ((sgA A k).2.1 = b4) := HTI
   clear HTI
   obtain ⟨c0, c1, c2, c3, c4, c5, c6⟩ := hst
   simp only at c0 c1 c2 c3 c4 c5 c6 T1 HB1 HV1
   obtain ⟨tg, htg⟩ : ∃ sg : Sg, sg = ((b1, b2, b3), b4, b5, b6, b7) := ⟨_, rfl⟩
   rw [← htg] at cFt' cSt' T1 HFA HT
   have HTG := yz htg
   clear htg
   obtain ⟨v0, v1, v2, v3, v4, v5, v6⟩ := yy HV1
   obtain ⟨x0, x1, x2, x3, x4, x5, x6⟩ := yy T1
   rw [yy HSG] at v0 v1 v2 v3 v4 v5 v6
   rw [yy HTG] at x0 x1 x2 x3 x4 x5 x6
   simp only [Nat.zero_add] at v0 v1 v2 v3 v4 v5 v6 x0 x1 x2 x3 x4 x5 x6
   by_cases hid : a4 = b4
   ·subst hid
    have HNO := yz (sZ (A := A) (s := sg) hkn (zn (by rw [yy HID, yy HTI'])))
    go_wp2_with fail
    go_ret
    exact ⟨by rw [yy HNO]; rfl, yy HB1⟩
   have hid' : (a4 == b4) = false := by simp [hid]
   go_wp2_with fail
   clear c0 c1 c2 c3 c4 c5 c6 v0 v1 v2 v3 v4 v5 v6 x0 x1 x2 x3 x4 x5 x6
   generalize wr.alloc (.cells #[.int .i64 b1, .int .i64 b2, .int .i64 b3, .int .i64 b4, .int .i64 b5, .int .i64 b6, .int .i64 b7] 228) = W1 at T1 HB1 HV1 ⊢
   generalize wr.heap.size = tb at *
   refine (yy cFt' _).mono ?_
   rintro e W2 ⟨rfl, hx⟩
   have T2 := yz ((yy T1).kept hx)
   have HB2 := yz (ak (yy HB1) hx)
   have HV2 := yz ((yy HV1).kept hx)
   clear hx T1 HB1 HV1
   cases hfar : jL sg tg
   ·have HNO := yz (sZ (A := A) (s := sg) hkn (wP (yy HFA _ hfar)))
    go_wp2_with fail
    go_ret
    exact ⟨by rw [yy HNO]; rfl, yy HB2⟩
   have HFT := yz (yy HFA _ hfar)
   have hkc : (k : Int) ≤ (c : Int) := by omega
   clear hfar HFA cFt'
   go_wp2_with fail
   go_loopw [33] (fun i wr => ∃ j : Nat, j ≤ k ∧ i = .int .i64 j ∧ Hid (∀ l, l < j → dw sg (sgA A l) tg = true) ∧ Hid (Below w.heap.size w wr) ∧ Hid (pT wr w.heap.size 0 sg) ∧ Hid (pT wr tb 0 tg)) (fun i _ => k - (intOf i).toNat)
   case atStart => exact ⟨0, by omega, rfl, yz (fun j hj => absurd hj (Nat.not_lt_zero _)), HB2, HV2, T2⟩
   case round =>
    clear HB2 HV2 T2
    obtain ⟨j, hj, rfl, HL, HB, HV, HT2⟩ := hrel
    by_cases hjk : j < k
    ·have hjk2 : (j : Int) < (k : Int) := by omega
     obtain ⟨f, hf⟩ : ∃ t, sgA A j = t := ⟨_, rfl⟩
     have hst := ((yy HC) j (by omega)).kept (yy HB)
     rw [hf] at hst
     have HFE := yz hf
     clear hf
     have cSf := yz (yy cSt' f)
     have Z := an wr (.cells #[.int .i64 f.1.1, .int .i64 f.1.2.1, .int .i64 f.1.2.2, .int .i64 f.2.1, .int .i64 f.2.2.1, .int .i64 f.2.2.2.1, .int .i64 f.2.2.2.2] 228)
     have F1 := fL wr f 228
     have HB1 := yz (ak (yy HB) Z)
     have HV1 := yz ((yy HV).kept Z)
     have HT3 := yz ((yy HT2).kept Z)
     clear Z HB HV HT2
     have HSB : Hid (dw sg (sgA A j) tg = dw sg f tg) := yz (by rw [yy HFE])
     have HSC : Hid (dw sg (sgA A j) (sgA A k) = dw sg f tg) := yz (by rw [yy HFE, yy HT])
     have cSg : Hid (∀ (W : World), Calls Tryz.prog 181 #[.agg #[.int .i64 a1, .int .i64 a2, .int .i64 a3, .int .i64 a4, .int .i64 a5, .int .i64 a6, .int .i64 a7], sgV f, .agg #[.int .i64 b1, .int .i64 b2, .int .i64 b3, .int .i64 b4, .int .i64 b5, .int .i64 b6, .int .i64 b7]] W fun e w' => e = .returned (.bool (dw sg f tg)) ∧ Below W.heap.size W w') := cSf
     clear cSf
     generalize dw sg f tg = sb at *
     obtain ⟨⟨f1, f2, f3⟩, f4, f5, f6, f7⟩ := f
     have cSh : Hid (∀ (W : World), Calls Tryz.prog 181 #[.agg #[.int .i64 a1, .int .i64 a2, .int .i64 a3, .int .i64 a4, .int .i64 a5, .int .i64 a6, .int .i64 a7], .agg #[.int .i64 f1, .int .i64 f2, .int .i64 f3, .int .i64 f4, .int .i64 f5, .int .i64 f6, .int .i64 f7], .agg #[.int .i64 b1, .int .i64 b2, .int .i64 b3, .int .i64 b4, .int .i64 b5, .int .i64 b6, .int .i64 b7]] W fun e w' => e = .returned (.bool sb) ∧ Below W.heap.size W w') := cSg
     clear cSg
     obtain ⟨c0, c1, c2, c3, c4, c5, c6⟩ := hst
     simp only at c0 c1 c2 c3 c4 c5 c6 F1 HB1 HV1 HT3
     obtain ⟨v0, v1, v2, v3, v4, v5, v6⟩ := yy HV1
     obtain ⟨x0, x1, x2, x3, x4, x5, x6⟩ := yy HT3
     obtain ⟨y0, y1, y2, y3, y4, y5, y6⟩ := F1
     rw [yy HSG] at v0 v1 v2 v3 v4 v5 v6
     rw [yy HTG] at x0 x1 x2 x3 x4 x5 x6
     simp only [Nat.zero_add] at v0 v1 v2 v3 v4 v5 v6 x0 x1 x2 x3 x4 x5 x6 y0 y1 y2 y3 y4 y5 y6
     go_wp2_with fail
     clear c0 c1 c2 c3 c4 c5 c6 v0 v1 v2 v3 v4 v5 v6 x0 x1 x2 x3 x4 x5 x6 y0 y1 y2 y3 y4 y5 y6
     refine (yy cSh _).mono ?_
     rintro e W4 ⟨rfl, hx⟩
     have HB4 := yz (ak (yy HB1) hx)
     have HV4 := yz ((yy HV1).kept hx)
     have HT4 := yz ((yy HT3).kept hx)
     clear hx HB1 HV1 HT3
     cases sb
     ·have HNO := yz (sZ (A := A) (s := sg) hkn (vB hjk (yy HSC)))
      go_wp2_with fail
      go_ret
      exact ⟨by rw [yy HNO]; rfl, yy HB4⟩
     ·go_wp2_with fail
      go_roundw
      case rel => exact ⟨j + 1, by omega, by go_num, yz (fun l hl => by
       by_cases e : l = j
       ·rw [e]; exact yy HSB
       ·exact yy HL l (by omega)), HB4, HV4, HT4⟩
      case measure => simp [intOf]; omega
    ·have hjk' : j = k := by omega
     subst hjk'
     have HOK : Hid (ew A sg j = true) := yz (xI (by rw [yy HID, yy HTI']; exact hid) (yy HFT) (fun l hl => by rw [yy HT]; exact yy HL l hl))
     go_wp2_with fail
     go_roundw
     case rel => exact ⟨j + 1, by omega, by go_num, yz (fun l hl => by
      by_cases e : l = j
      ·rw [e]; exact yy HOK
      ·exact yy HF l (by omega)), HB, HV⟩
     case measure => simp [intOf]; omega
  ·have hkn' : k = n := by omega
   subst hkn'
   have HY := yz (Ba (A := A) (s := sg) (yy HF))
   go_wp2_with fail
   go_ret
   exact ⟨by rw [yy HY]; rfl, yy HB⟩
end
section
open Go.RowKit Go.Sort
theorem mH {P : Program} {ops : Array Oper} {o : Oper} {a : Act} {w : World} {K : Act → World → Prop} {Q : Exit → Act → World → Prop} {E : Prop} (hgd : o.guard = none) (s x : Operand) (t : TypeId)
  (ho : o.op = .call { callee := .builtin .append, args := #[s, x], argTypes := #[t, t] })
  (base : Nat) (e : TypeId) (i : TypeInfo) (z : Value) (size bytes : Nat) (ht : P.underlying t = some (.slice e)) (hi : P.info? e = some i) (hz : i.zero = some z)
  (hsize : i.size = size) (hby : i.bytes = bytes) (hzs : z.cells.size = size) (hsz : 0 < size)
  (v : Value) (n : Nat) (xs : List Value) (hs : a.eval s = v) (hown : w.ownsRow base e size v n xs)
  (ad : Addr) (m c : Nat) (news : List Value) (hx : a.eval x = .slice (some ad) m c) (hl : news.length = m * size) (hnews : ∀ j u, news[j]? = some u → w.cell? (ad.add j) = some u) (h1 : ∀ u ∈ news, u.oneCell' = true)
  (h63 : n + m ≤ maxLen) (hbytes : (n + m) * bytes ≤ 140737488355328) (hbase : base ≤ w.heap.size)
  (h : ∀ v' w', w'.ownsRow base e size v' (n + m) (xs ++ news) → w.grownBy w' v.ownBlock → K (a.put o.dst v') w') : if Region.wanted o (yielded ops a.tmps) = true then Oper.wp P o a w K Q else E := by
 have hw : Region.wanted o (yielded ops a.tmps) = true := by simp [Region.wanted, hgd]
 rw [if_pos hw]
 exact wp_append_own w s x t ho base e i z size bytes ht hi hz hsize hby hzs hsz v n xs hs hown ad m c news hx hl hnews h1 h63 hbytes hbase fun v' w' h2 h3 _ => h v' w' h2 h3
theorem eG {w w' : World} {a : Addr} {v : Value} (h : w.cell? a = some v) (hB : Below w.heap.size w w') : w'.cell? a = some v := (hB.cell (World.block_lt_of_cell? w a h)).trans h
theorem bY {w w' : World} {a : Addr} {v : Value} {row : Option Nat} (h : w.cell? a = some v) (hg : w.grownBy w' row) (hne : some a.block ≠ row) : w'.cell? a = some v := (World.cell?_of_block (hg.block a.block (World.block_lt_of_cell? w a h) hne)).trans h
theorem oV : (Tryz.prog.info? 228).map (fun i => (i.zero, i.size, i.bytes)) = some (some (.agg #[.int .i64 0, .int .i64 0, .int .i64 0, .int .i64 0, .int .i64 0, .int .i64 0, .int .i64 0]), 7, 56) := by kernel_rfl
def cq (S : List Sg) : List Value := S.flatMap sgL
theorem pn (A B : List Sg) : cq (A ++ B) = cq A ++ cq B := by unfold cq; rw [List.flatMap_append]
theorem nM {S : List Sg} {v : Value} (h : v ∈ cq S) : v.oneCell' = true := by
 unfold cq at h
 rw [List.mem_flatMap] at h
 obtain ⟨p, _, hp⟩ := h
 simp [sgL] at hp
 rcases hp with rfl | rfl | rfl | rfl | rfl | rfl | rfl <;> rfl
theorem Ak : ∀ (S : List Sg) (k : Nat) (b : Sg), S[k]? = some b → ∀ j u, (sgL b)[j]? = some u → (cq S)[k * 7 + j]? = some u := by
 intro S
 induction S with
 | nil => intro k b h; simp at h
 | cons x S ih =>
  intro k b h j u hu
  have e : cq (x :: S) = sgL x ++ cq S := by unfold cq; simp
  have hj : j < 7 := (List.getElem?_eq_some_iff.1 hu).1
  rw [e]
  cases k with
  | zero =>
   simp at h
   subst h
   rw [List.getElem?_append_left (by show _ < 7; omega)]
   simpa using hu
  | succ k =>
   rw [List.getElem?_append_right (by show 7 ≤ _; omega)]
   rw [show (k + 1) * 7 + j - (sgL x).length = k * 7 + j by show _ - 7 = _; omega]
   exact ih k b (by simpa using h) j u hu
theorem lq {w : World} {B : Nat} {a : Option Addr} {c : Nat} {A : List Sg} (h : w.ownsRow B 228 7 (.slice a A.length c) A.length (cq A)) : eT w a A A.length := by
 rcases h.2 with ⟨h1, h0⟩ | ⟨g, cap, cur, hv, hb, hg, hnc, hcm, hcs, htake⟩
 ·exact .inl h0
 ·injection hv with e1 e2 e3
  refine .inr ⟨g, 0, e1, (Array.getElem?_eq_some_iff.1 hg).1, fun k hk => ?_⟩
  have hk' : A[k]? = some (sgA A k) := by unfold sgA; rw [List.getD_eq_getElem?_getD, List.getElem?_eq_getElem hk]; rfl
  have cl : ∀ j u, (sgL (sgA A k))[j]? = some u → w.cell? ⟨g, 0 + k * 7 + j, none⟩ = some u := by
   intro j u hu
   have hj : j < 7 := (List.getElem?_eq_some_iff.1 hu).1
   have e := Ak A k _ hk' j u hu
   rw [cell_of_row w g _ cur _ _ hg]
   rw [← htake, List.getElem?_take, if_pos (by omega)] at e
   rw [Nat.zero_add]
   simpa using e
  exact ⟨cl 0 _ rfl, cl 1 _ rfl, cl 2 _ rfl, cl 3 _ rfl, cl 4 _ rfl, cl 5 _ rfl, cl 6 _ rfl⟩
theorem yq {w : World} {B : Nat} {a : Option Addr} {c n m : Nat} {t : TypeId} {xs : List Value} (h : w.ownsRow B t m (.slice a n c) n xs) (hm : 0 < m) : n ≤ c := by
 rcases h.2 with ⟨h1, h0⟩ | ⟨g, cap, cur, hv, hb, hg, hnc, hcm, hcs, htake⟩
 ·injection h1 with _ e2 e3
  omega
 ·injection hv with e1 e2 e3
  omega
theorem mE (L : List St) (S : List D3) (ids : List Int) (n : Nat) (ar br ir : Option Addr) (cr dr er : Nat) (p : Addr) (w : World) (hk : aV L = true) (hn : L.length ≤ 1048576) (hcap : L.length ≤ cr) (hc9 : cr ≤ 9223372036854775807) (hm : S.length ≤ 6) (hl : n = S.length) (hS : aR w ar L L.length) (hD : cf w br S S.length) (hI : gx w ir ids n) (hE : bu p w) :
  Calls Tryz.prog 189 #[.slice ar L.length cr, .slice br S.length dr, .slice ir n er] w fun e w' => (∃ v, e = .returned v ∧ w'.ownsRow w.heap.size 228 7 v (au L S ids n).length (cq (au L S ids n))) ∧ Below w.heap.size w w' := by
 obtain ⟨i0, hinf, hz0, hz1, hz2⟩ := info_parts oV
 have hm8 : 1000 ≤ maxLen := by decide +kernel
 have cA := yz (fun (W : World) (id : Int) hW hE => pz L id ar cr p W hn hcap hc9 hW hE)
 have HAT : Hid (∀ id, oS L id = atV L L.length id) := yz (fun id => by unfold oS; rw [if_pos hk])
 have HS := yz hS
 have HD := yz hD
 have HE := yz hE
 have HN := yz (fy L S ids)
 have HLE := yz (hZ L S ids)
 have HSO : Hid (∀ i, bL L S ids i = (vA S i, (ids.getD i 0, atV L L.length (ids.getD i 0)))) := yz (fun i => rfl)
 clear hS hD hE hk hcap hc9
 generalize hme : S.length = m at *
 subst hl
 generalize L.length = ln at *
 rcases hI with rfl | ⟨ib, io, rfl, hib, hic⟩
 ·go_enter Tryz.func189, Tryz.ntmps189
  go_wp2_with fail
  refine wp_loop_rounds 1 ?_
  rw [rounds_succ]
  go_wp2_with fail
  go_ret
  exact ⟨⟨_, rfl, World.ownsRow_nil _ _ _ _⟩, Below.refl _ _⟩
 have HIC := yz hic
 clear hic
 go_enter Tryz.func189, Tryz.ntmps189
 go_wp2_with fail
 go_loopw [7, 13] (fun v kk wr => ∃ i : Nat, i ≤ n ∧ kk = .int .i64 i ∧ Hid (wr.ownsRow w.heap.size 228 7 v (au L S ids i).length (cq (au L S ids i))) ∧ Hid (Below w.heap.size w wr)) (fun _ kk _ => n - (intOf kk).toNat)
 case atStart => exact ⟨0, by omega, rfl, yz (World.ownsRow_nil _ _ _ _), yz (Below.refl _ _)⟩
 case round =>
  obtain ⟨i, hi, rfl, HO, HB⟩ := hrel
  by_cases hin : i < n
  ·have hin2 : (i : Int) < (n : Int) := by omega
   have ci : wr.cell? ⟨ib, io + i, none⟩ = some (.int .i64 (ids.getD i 0)) := by rw [(yy HB).cell (p := ⟨ib, io + i, none⟩) hib]; exact yy HIC i hin
   have HSN := yz (yy HN i)
   have HSI := yz (yy HSO i)
   have hle := yy HLE i
   generalize ids.getD i 0 = id at *
   by_cases hid : id = 0
   ·subst hid
    rw [if_neg (by simp), List.append_nil] at HSN
    have HO3 : Hid (wr.ownsRow w.heap.size 228 7 u7 (au L S ids (i + 1)).length (cq (au L S ids (i + 1)))) := yz (by rw [yy HSN]; exact yy HO)
    go_wp2_with fail
    go_roundw
    case rel => exact ⟨i + 1, by omega, by go_num, HO3, HB⟩
    case measure => simp [intOf] <;> omega
   ·have hid' : (id == 0) = false := by simp [hid]
    rw [if_pos hid] at HSN
    rw [yy HSI] at HSN
    clear HSI
    have cA' := yz (fun (W : World) hW hE => yy cA W id hW hE)
    rw [yy HAT id] at cA'
    generalize atV L ln id = q at *
    obtain ⟨q1, q2, q3⟩ := q
    go_wp2_with fail
    refine (yy cA' _ ((yy HS).kept (yy HB)) ((yy HE).kept (yy HB))).mono ?_
    rintro e W1 ⟨rfl, hx⟩
    unfold sR
    simp only
    have HO1 := iD (yy HO) hx
    have HB1 := ak (yy HB) hx
    clear hx HO HB cA'
    have HU : Hid (∀ z, u7.ownBlock = some z → w.heap.size ≤ z ∧ z < W1.heap.size) := yz (fun z e => HO1.lt z e)
    have Z := an W1 (.cells #[.int .i64 id, .int .i64 q1, .int .i64 q2, .int .i64 q3] 60)
    have HO2 := yz (iD HO1 Z)
    have HB2 := yz (ak HB1 Z)
    have N2 := yz (fk W1 (id, q1, q2, q3) 60)
    clear Z HO1 HB1 ci
    go_wp2_with fail
    generalize W1.alloc (.cells #[.int .i64 id, .int .i64 q1, .int .i64 q2, .int .i64 q3] 60) = W2 at HO2 HB2 N2 ⊢
    generalize W1.heap.size = tb at *
    rcases yy HD with h | ⟨bb, bo, rfl, hbb, hbc⟩
    ·omega
    have hst := (hbc i hin).kept hbb (yy HB2)
    clear hbc
    generalize vA S i = sv at *
    obtain ⟨v1, v2, v3⟩ := sv
    obtain ⟨c0, c1, c2⟩ := hst
    obtain ⟨d0, d1, d2, d3⟩ := yy N2
    simp only [Nat.zero_add] at d0 d1 d2 d3
    simp only at c0 c1 c2
    refine wp_region_held_drew (S := (fun w' => (w'.cell? ⟨bb, bo + i * 3, none⟩ = some (.int .i64 v1) ∧ w'.cell? ⟨bb, bo + i * 3 + 1, none⟩ = some (.int .i64 v2) ∧ w'.cell? ⟨bb, bo + i * 3 + 2, none⟩ = some (.int .i64 v3)) ∧ w'.cell? ⟨tb, 0, none⟩ = some (.int .i64 id) ∧ w'.cell? ⟨tb, 1, none⟩ = some (.int .i64 q1) ∧ w'.cell? ⟨tb, 2, none⟩ = some (.int .i64 q2) ∧ w'.cell? ⟨tb, 3, none⟩ = some (.int .i64 q3))) (by kernel_rfl) ?_ (fun hHeld => ?_)
    ·exact ⟨⟨c0, c1, c2⟩, d0, d1, d2, d3⟩
    refine ac 0 rfl ?_
    try simp only [Act.put, ah, ai, aj]
    refine ac 1 rfl ?_
    try simp only [Act.put, ah, ai, aj]
    refine ac 2 rfl ?_
    try simp only [Act.put, ah, ai, aj]
    refine ac 3 rfl ?_
    try simp only [Act.put, ah, ai, aj]
    refine ac 4 rfl ?_
    try simp only [Act.put, ah, ai, aj]
    refine ac 5 rfl ?_
    try simp only [Act.put, ah, ai, aj]
    refine ac 6 rfl ?_
    try simp only [Act.put, ah, ai, aj]
    have HOd : W2.drew.ownsRow w.heap.size 228 7 u7 (au L S ids i).length (cq (au L S ids i)) := yy HO2
    have HBd := (yy HB2).drew
    have hbs : w.heap.size ≤ W2.drew.heap.size := HBd.size
    have hbs2 : w.heap.size ≤ W2.heap.size := hbs
    have c0d : W2.drew.cell? ⟨bb, bo + i * 3, none⟩ = some (.int .i64 v1) := c0
    have c1d : W2.drew.cell? ⟨bb, bo + i * 3 + 1, none⟩ = some (.int .i64 v2) := c1
    have c2d : W2.drew.cell? ⟨bb, bo + i * 3 + 2, none⟩ = some (.int .i64 v3) := c2
    have d0d : W2.drew.cell? ⟨tb, 0, none⟩ = some (.int .i64 id) := d0
    have d1d : W2.drew.cell? ⟨tb, 1, none⟩ = some (.int .i64 q1) := d1
    have d2d : W2.drew.cell? ⟨tb, 2, none⟩ = some (.int .i64 q2) := d2
    have d3d : W2.drew.cell? ⟨tb, 3, none⟩ = some (.int .i64 q3) := d3
    clear c0 c1 c2 d0 d1 d2 d3
    refine af 7 rfl fun K hK => ?_
    go_simp
    have Z5 := an W2.drew (.cells #[.int .i64 v1, .int .i64 v2, .int .i64 v3, .int .i64 id, .int .i64 q1, .int .i64 q2, .int .i64 q3] 228)
    have hown := iD HOd Z5
    have B5 := ak HBd Z5
    have c0 := eG c0d Z5
    have c1 := eG c1d Z5
    have c2 := eG c2d Z5
    have d0 := eG d0d Z5
    have d1 := eG d1d Z5
    have d2 := eG d2d Z5
    have d3 := eG d3d Z5
    clear Z5 c0d c1d c2d d0d d1d d2d d3d HOd HBd
    refine hK.out _ _ ?_ (fun hHeld3 => ?_)
    ·exact ⟨⟨c0, c1, c2⟩, d0, d1, d2, d3⟩
    clear hK K hHeld
    refine af 8 rfl fun K hK => ?_
    refine mH rfl _ _ 225 rfl w.heap.size 228 i0 (.agg #[.int .i64 0, .int .i64 0, .int .i64 0, .int .i64 0, .int .i64 0, .int .i64 0, .int .i64 0]) 7 56 Tryz.underlying225 hinf hz0 hz1 hz2 rfl (by decide) _ _ _ rfl hown ⟨W2.drew.heap.size, 0, none⟩ 1 1 (cq [((v1, v2, v3), (id, q1, q2, q3))]) rfl rfl ?d2 (fun u hu => nM hu) ?d3 ?d4 ?d5 ?_
    case d2 => first | exact fun j u h => h | exact iR _ _ _
    case d3 => omega
    case d4 => omega
    case d5 => first | omega | (simp; omega)
    intro v7 V7 hown7 hgrow7
    have neb : ∀ z, z < w.heap.size ∨ tb ≤ z → some z ≠ u7.ownBlock := fun z hz e => by have := yy HU z e.symm; omega
    have HB8 : Hid (Below w.heap.size w V7) := yz (B5.trans ⟨hgrow7.os, hgrow7.tape, hgrow7.output, hgrow7.size, fun z hz => hgrow7.block z (by simp; omega) (neb z (.inl hz))⟩)
    have c0' := bY c0 hgrow7 (neb _ (.inl hbb))
    have c1' := bY c1 hgrow7 (neb _ (.inl hbb))
    have c2' := bY c2 hgrow7 (neb _ (.inl hbb))
    have d0' := bY d0 hgrow7 (neb _ (.inr (Nat.le_refl _)))
    have d1' := bY d1 hgrow7 (neb _ (.inr (Nat.le_refl _)))
    have d2' := bY d2 hgrow7 (neb _ (.inr (Nat.le_refl _)))
    have d3' := bY d3 hgrow7 (neb _ (.inr (Nat.le_refl _)))
    have HO8 : Hid (V7.ownsRow w.heap.size 228 7 v7 (au L S ids (i + 1)).length (cq (au L S ids (i + 1)))) := yz (by rw [yy HSN, pn, List.length_append]; exact hown7)
    clear hown7 hgrow7 hown B5 c0 c1 c2 d0 d1 d2 d3 neb
    refine hK.out _ _ ?_ (fun hHeld4 => ?_)
    ·exact ⟨⟨c0', c1', c2'⟩, d0', d1', d2', d3'⟩
    clear hK K hHeld3
    refine af 9 rfl fun K hK => ?_
    go_simp
    refine hK.out _ _ ?_ (fun hHeld5 => ?_)
    ·exact ⟨⟨c0', c1', c2'⟩, d0', d1', d2', d3'⟩
    clear hK K hHeld4
    refine wpAnyH_done (by kernel_rfl) ?_ _
    clear c0' c1' c2' d0' d1' d2' d3' hHeld5
    go_wp2_with fail
    go_roundw
    case rel => exact ⟨i + 1, by omega, by go_num, HO8, HB8⟩
    case measure => simp [intOf] <;> omega
  ·have hin' : i = n := by omega
   subst hin'
   go_wp2_with fail
   go_ret
   exact ⟨⟨_, rfl, yy HO⟩, yy HB⟩
end
section
open Go.RowKit Go.Sort
theorem zK {L : List St} {S : List D3} {ids : List Int} (h : aV L = false) : bE L S ids = false := by unfold bE; rw [h]; rfl
theorem Aj {L : List St} {S : List D3} {ids : List Int} (h : aU S = false) : bE L S ids = false := by unfold bE; rw [h, Bool.and_false]; rfl
theorem zA {L : List St} {S : List D3} {ids : List Int} (h : ids.length ≠ S.length) : bE L S ids = false := by unfold bE; rw [decide_eq_false h, Bool.and_false]; rfl
theorem Ap {L : List St} {S : List D3} {ids : List Int} (h1 : aV L = true) (h2 : aU S = true) (h3 : ids.length = S.length) : bE L S ids = eo (au L S ids ids.length) (au L S ids ids.length).length := by unfold bE; rw [h1, h2, decide_eq_true h3]; rfl
theorem wY {A : List Sg} {n : Nat} (h : ∀ i, i < n → (!hH (sgA A i).2.2 && ea A (sgA A i) i) = true) : eo A n = true := by
 unfold eo
 rw [List.all_eq_true]
 exact fun i hi => h i (List.mem_range.1 hi)
theorem rN {A : List Sg} {n i : Nat} (hi : i < n) (h : (!hH (sgA A i).2.2 && ea A (sgA A i) i) = false) : eo A n = false := by
 unfold eo
 rw [List.all_eq_false]
 exact ⟨i, List.mem_range.2 hi, by rw [h]; simp⟩
theorem pU {w : World} {B : Nat} {a : Option Addr} {c n m : Nat} {t : TypeId} {xs : List Value} (h : w.ownsRow B t m (.slice a n c) n xs) : c ≤ maxLen := by
 rcases h.2 with ⟨h1, h0⟩ | ⟨g, cap, cur, hv, hb, hg, hnc, hcm, hcs, htake⟩
 ·injection h1 with _ e2 e3
  omega
 ·injection hv with e1 e2 e3
  omega
theorem qT (L : List St) (S : List D3) (ids : List Int) (ar br ir : Option Addr) (cr dr er : Nat) (p : Addr) (w : World) (hn : L.length ≤ 1048576) (hcap : L.length ≤ cr) (hc9 : cr ≤ 9223372036854775807) (hn2 : S.length ≤ 1048576) (hcap2 : S.length ≤ dr) (hd9 : dr ≤ 9223372036854775807) (hn3 : ids.length ≤ 1048576) (hS : aR w ar L L.length) (hD : cf w br S S.length) (hI : gx w ir ids ids.length) (hE : bu p w) :
  Calls Tryz.prog 188 #[.slice ar L.length cr, .slice br S.length dr, .slice ir ids.length er] w fun e w' => e = .returned (.bool (bE L S ids)) ∧ Below w.heap.size w w' := by
 have cK := yz (fun (W : World) hW hE => eO L ar cr p W hn hcap hc9 hW hE)
 have cP := yz (fun (W : World) hW => fC S br dr W hn2 hcap2 hd9 hW)
 have cO : Hid (aV L = true → S.length ≤ 6 → ids.length = S.length → ∀ W : World, aR W ar L L.length → cf W br S S.length → gx W ir ids ids.length → bu p W → Calls Tryz.prog 189 #[.slice ar L.length cr, .slice br S.length dr, .slice ir ids.length er] W fun e w' => (∃ v, e = .returned v ∧ w'.ownsRow W.heap.size 228 7 v (au L S ids ids.length).length (cq (au L S ids ids.length))) ∧ Below W.heap.size W w') := yz (fun hk hm hl W h1 h2 h3 h4 => mE L S ids ids.length ar br ir cr dr er p W hk hn hcap hc9 hm hl h1 h2 h3 h4)
 have H1 : Hid (aV L = false → bE L S ids = false) := yz zK
 have H2 : Hid (aU S = false → bE L S ids = false) := yz Aj
 have H3 : Hid (ids.length ≠ S.length → bE L S ids = false) := yz zA
 have H4 : Hid (aV L = true → aU S = true → ids.length = S.length → bE L S ids = eo (au L S ids ids.length) (au L S ids ids.length).length) := yz Ap
 have H6 : Hid (aU S = true → S.length ≤ 6) := yz (fun h => (bK h).1)
 have hAL := hZ L S ids ids.length
 have HS := yz hS
 have HD := yz hD
 have HI := yz hI
 have HE := yz hE
 clear hS hD hI hE
 generalize bE L S ids = R at *
 generalize au L S ids ids.length = A at *
 generalize S.length = m at *
 generalize ids.length = k at *
 generalize L.length = n at *
 go_enter Tryz.func188, Tryz.ntmps188
 go_wp2_with fail
 refine (yy cK _ (yy HS) (yy HE)).mono ?_
 rintro e W1 ⟨rfl, hx⟩
 have B1 := yz hx
 clear hx
 cases hk : aV L
 ·obtain rfl := yy H1 hk
  go_wp2_with fail
  go_ret
  exact ⟨rfl, yy B1⟩
 go_wp2_with fail
 refine (yy cP _ ((yy HD).kept (yy B1))).mono ?_
 rintro e W2 ⟨rfl, hx⟩
 have B2 := yz (ak (yy B1) hx)
 clear hx B1
 cases hp : aU S
 ·obtain rfl := yy H2 hp
  go_wp2_with fail
  go_ret
  exact ⟨rfl, yy B2⟩
 by_cases hl0 : k ≠ m
 ·obtain rfl := yy H3 hl0
  have hl' : ¬ (k : Int) = (m : Int) := by omega
  have hl2 : ((k : Int) == (m : Int)) = false := by simp; omega
  go_wp2_with fail
  go_ret
  exact ⟨rfl, yy B2⟩
 have hl : k = m := Decidable.not_not.1 hl0
 clear hl0
 have HR := yz (yy H4 hk hp hl)
 have hm6 := yy H6 hp
 have cO' := yz (yy cO hk hm6 hl)
 subst hl
 clear hk hp H1 H2 H3 H4 H6 cK cP cO
 go_wp2_with fail
 refine (yy cO' _ ((yy HS).kept (yy B2)) ((yy HD).kept (yy B2)) ((yy HI).kept (yy B2)) ((yy HE).kept (yy B2))).mono ?_
 rintro e W3 ⟨⟨v3, rfl, ho⟩, hx⟩
 obtain ⟨a3, c3, rfl⟩ := Ct ho
 have hcap3 := yq ho (by omega)
 have HSG := yz (lq ho)
 have B3 := yz (ak (yy B2) hx)
 have hc39 : c3 ≤ 9223372036854775807 := Nat.le_trans (pU ho) (by decide +kernel)
 clear ho hx B2 cO'
 generalize hal : A.length = al at *
 clear hal
 have cF : Hid (∀ (s : Sg) (i : Nat) (a : Option Addr) (W : World), i ≤ al → eT W a A i → Calls Tryz.prog 168 #[sgV s, .slice a i c3] W fun e w' => e = .returned (.bool (ea A s i)) ∧ Below W.heap.size W w') := yz (fun s i a W hi hs => ki A i s a c3 W (by omega) (by omega) hc39 hs)
 go_wp2_with fail
 rcases yy HSG with h0 | ⟨sb, so, rfl, hsb, hsc⟩
 ·subst h0
  have HY : Hid (R = true) := yz (by rw [yy HR]; rfl)
  refine wp_loop_rounds 1 ?_
  rw [rounds_succ]
  go_wp2_with fail
  go_ret
  exact ⟨by rw [yy HY]; rfl, yy B3⟩
 have HSC := yz hsc
 clear hsc
 have hsb3 : sb < W3.heap.size := hsb
 go_loopw [31] (fun kk wr => ∃ i : Nat, i ≤ al ∧ kk = .int .i64 i ∧ Hid (∀ j, j < i → (!hH (sgA A j).2.2 && ea A (sgA A j) j) = true) ∧ Hid (Below W3.heap.size W3 wr)) (fun kk _ => al - (intOf kk).toNat)
 case atStart => exact ⟨0, by omega, rfl, yz (fun j hj => absurd hj (Nat.not_lt_zero _)), yz (Below.refl _ _)⟩
 case round =>
  obtain ⟨i, hi, rfl, HF, HB⟩ := hrel
  by_cases hin : i < al
  ·have hin2 : (i : Int) < (al : Int) := by omega
   obtain ⟨t, ht⟩ : ∃ t, sgA A i = t := ⟨_, rfl⟩
   have hst := ((yy HSC) i hin).kept (yy HB)
   rw [ht] at hst
   have HT := yz ht
   clear ht
   have HSi : Hid (eT wr (some ⟨sb, so, none⟩) A i) := yz ((((yy HSG).less (Nat.le_of_lt hin))).kept (yy HB))
   have cFi := yz (fun W h => yy cF t i (some ⟨sb, so, none⟩) W (Nat.le_of_lt hin) h)
   have HOK : Hid ((!hH (sgA A i).2.2 && ea A (sgA A i) i) = (!hH t.2.2 && ea A t i)) := yz (by rw [yy HT])
   have Z := an wr (.cells #[.int .i64 t.1.1, .int .i64 t.1.2.1, .int .i64 t.1.2.2, .int .i64 t.2.1, .int .i64 t.2.2.1, .int .i64 t.2.2.2.1, .int .i64 t.2.2.2.2] 228)
   have T1 := fL wr t 228
   have HB1 := yz (ak (yy HB) Z)
   have HS1 := yz ((yy HSi).kept Z)
   clear Z HB HSi
   generalize hfv : ea A t i = fv at *
   clear hfv
   obtain ⟨⟨b1, b2, b3⟩, b4, b5, b6, b7⟩ := t
   have cFj : Hid (∀ (W : World), eT W (some ⟨sb, so, none⟩) A i → Calls Tryz.prog 168 #[.agg #[.int .i64 b1, .int .i64 b2, .int .i64 b3, .int .i64 b4, .int .i64 b5, .int .i64 b6, .int .i64 b7], .slice (some ⟨sb, so, none⟩) i c3] W fun e w' => e = .returned (.bool fv) ∧ Below W.heap.size W w') := cFi
   clear cFi
   have HOK' : Hid ((!hH (sgA A i).2.2 && ea A (sgA A i) i) = (!eqB b5 b6 b7 0 0 0 && fv)) := HOK
   clear HOK
   have he := fun W => uf b5 b6 b7 0 0 0 W
   obtain ⟨c0, c1, c2, c3', c4, c5, c6⟩ := hst
   simp only at c0 c1 c2 c3' c4 c5 c6 T1 HB1 HS1
   go_wp2_with fail
   clear c0 c1 c2 c3' c4 c5 c6
   generalize wr.alloc (.cells #[.int .i64 b1, .int .i64 b2, .int .i64 b3, .int .i64 b4, .int .i64 b5, .int .i64 b6, .int .i64 b7] 228) = W4 at T1 HB1 HS1 ⊢
   generalize wr.heap.size = tb at *
   obtain ⟨x0, x1, x2, x3, x4, x5, x6⟩ := T1
   simp only [Nat.zero_add] at x0 x1 x2 x3 x4 x5 x6
   have r0 := cell_regrown x0
   have r1 := cell_regrown x1
   have r2 := cell_regrown x2
   have r3 := cell_regrown x3
   have r4 := cell_regrown x4
   have r5 := cell_regrown x5
   have r6 := cell_regrown x6
   clear x0 x1 x2 x3 x4 x5 x6
   have hic : (i : Int) ≤ (c3 : Int) := by omega
   cases hz : eqB b5 b6 b7 0 0 0
   ·rw [hz] at he HOK'
    rw [Bool.not_false, Bool.true_and] at HOK'
    refine wp_region_quiet_below (by kernel_rfl) (by kernel_rfl) ?_
    repeat (go_big_quiet_step (first | (with_reducible exact Calls.regrown_of (yy cFj _ ((yy HS1).kept (below_regrown _ _ _))))))
    refine wpQuiet_nil ?_
    intro _ hw'
    obtain ⟨⟨dq, osq⟩, hw''⟩ := hw'
    subst hw''
    have hx := ak (yy HB1) (below_regrown W4 dq osq)
    generalize grow (redrawn W4 dq) osq = W5 at hx ⊢
    have HB5 := yz hx
    clear hx r0 r1 r2 r3 r4 r5 r6 he cFj HS1 HB1
    cases fv
    ·have HNO : Hid (R = false) := yz (by rw [yy HR]; exact rN hin (yy HOK'))
     go_wp2_with fail
     go_ret
     exact ⟨by rw [yy HNO]; rfl, (yy B3).trans ((yy HB5).mono (yy B3).size)⟩
    ·go_wp2_with fail
     go_roundw
     case rel => exact ⟨i + 1, by omega, by go_num, yz (fun l hl => by
      by_cases e : l = i
      ·rw [e]; exact yy HOK'
      ·exact yy HF l (by omega)), HB5⟩
     case measure => simp [intOf] <;> omega
   ·rw [hz] at he HOK'
    have HNO : Hid (R = false) := yz (by rw [yy HR]; exact rN hin (yy HOK'))
    refine wp_region_quiet_below (by kernel_rfl) (by kernel_rfl) ?_
    repeat (go_big_quiet_step (fail))
    refine wpQuiet_nil ?_
    intro _ hw'
    obtain ⟨⟨dq, osq⟩, hw''⟩ := hw'
    subst hw''
    have hx := ak (yy HB1) (below_regrown W4 dq osq)
    generalize grow (redrawn W4 dq) osq = W5 at hx ⊢
    go_wp2_with fail
    go_ret
    exact ⟨by rw [yy HNO]; rfl, (yy B3).trans (hx.mono (yy B3).size)⟩
  ·have hin' : i = al := by omega
   subst hin'
   have HY : Hid (R = true) := yz (by rw [yy HR]; exact wY (yy HF))
   go_wp2_with fail
   go_ret
   exact ⟨by rw [yy HY]; rfl, (yy B3).trans ((yy HB).mono (yy B3).size)⟩
theorem Ai {p q r : D3} (hp : ax p.1 p.2.1 p.2.2 = true) (hq : ax q.1 q.2.1 q.2.2 = true) (hr : ax r.1 r.2.1 r.2.2 = true) :
  qK p q r = bx (crW p.2.1 p.2.2 q.2.1 q.2.2) (crW p.2.2 p.1 q.2.2 q.1) (crW p.1 p.2.1 q.1 q.2.1) r.1 r.2.1 r.2.2 := by
 unfold qK rd
 rw [hp, hq, hr]
 rfl
theorem sk (p q r : D3) (hp : ax p.1 p.2.1 p.2.2 = true) (hq : ax q.1 q.2.1 q.2.2 = true) (hr : ax r.1 r.2.1 r.2.2 = true) : ∃ (x1 x2 x3 d : Int),
  Hid (∀ W : World, Calls Tryz.prog 57 #[.agg #[.int .i64 p.1, .int .i64 p.2.1, .int .i64 p.2.2], .agg #[.int .i64 q.1, .int .i64 q.2.1, .int .i64 q.2.2]] W fun e w' => e = .returned (.agg #[.int .i64 x1, .int .i64 x2, .int .i64 x3]) ∧ Below W.heap.size W w')
  ∧ Hid (∀ W : World, Calls Tryz.prog 58 #[.agg #[.int .i64 x1, .int .i64 x2, .int .i64 x3], .agg #[.int .i64 r.1, .int .i64 r.2.1, .int .i64 r.2.2]] W fun e w' => e = .returned (.int .i64 d) ∧ Below W.heap.size W w')
  ∧ Hid (∀ W : World, Calls Tryz.prog 116 #[.int .i64 d] W fun e w' => e = .returned (.int .i64 (gB (qK p q r) 0)) ∧ Below W.heap.size W w') := by
 refine ⟨_, _, _, _, yz (fun W => mu _ _ _ _ _ _ W), yz (fun W => fj _ _ _ _ _ _ W), yz (fun W => (dS _ W).mono fun e w' h => ?_)⟩
 obtain ⟨he, hw⟩ := h
 refine ⟨?_, by rw [hw]; exact Below.refl _ _⟩
 rw [he, Ai hp hq hr]
 rfl
theorem Cd (p q r s : D3) (hp : iS p = true) (hq : iS q = true) (hr : aL r.1 r.2.1 r.2.2 = true) (hs : aL s.1 s.2.1 s.2.2 = true) (W : World) :
  Calls Tryz.prog 115 #[.agg #[.int .i64 p.1, .int .i64 p.2.1, .int .i64 p.2.2], .agg #[.int .i64 q.1, .int .i64 q.2.1, .int .i64 q.2.2], .agg #[.int .i64 r.1, .int .i64 r.2.1, .int .i64 r.2.2], .agg #[.int .i64 s.1, .int .i64 s.2.1, .int .i64 s.2.2]] W fun e w' => e = .returned (.int .i64 (nB p.1 p.2.1 p.2.2 q.1 q.2.1 q.2.2 r.1 r.2.1 r.2.2 s.1 s.2.1 s.2.2)) ∧ Below W.heap.size W w' := by
 rw [Du hp hq hr hs]
 exact xq _ _ _ _ _ _ _ _ _ _ _ _ W
def iy (L : List St) (S : List D3) (ids : List Int) (s : Sg) (i : Nat) : Bool := decide (ids.getD i 0 = 0) || (decide (s.2.1 ≠ ids.getD i 0) && jL s (bL L S ids i) && (List.range i).all (fun j => decide (ids.getD j 0 = 0) || dw s (bL L S ids j) (bL L S ids i)))
theorem zx {L : List St} {S : List D3} {ids : List Int} {s : Sg} {n : Nat} (h : ∀ i, i < n → iy L S ids s i = true) : iZ L S ids s n = true := by
 unfold iZ
 rw [List.all_eq_true]
 exact fun i hi => h i (List.mem_range.1 hi)
theorem ql {L : List St} {S : List D3} {ids : List Int} {s : Sg} {n i : Nat} (hi : i < n) (h : iy L S ids s i = false) : iZ L S ids s n = false := by
 unfold iZ
 rw [List.all_eq_false]
 exact ⟨i, List.mem_range.2 hi, by unfold iy at h; rw [h]; simp⟩
theorem xS {L : List St} {S : List D3} {ids : List Int} {s : Sg} {i : Nat} (h : ids.getD i 0 = 0) : iy L S ids s i = true := by unfold iy; rw [decide_eq_true h, Bool.true_or]
theorem wQ {L : List St} {S : List D3} {ids : List Int} {s : Sg} {i : Nat} (h : ids.getD i 0 ≠ 0) (h1 : s.2.1 = ids.getD i 0) : iy L S ids s i = false := by
 unfold iy
 rw [decide_eq_false h, Bool.false_or, show decide (s.2.1 ≠ ids.getD i 0) = false from decide_eq_false (fun g => g h1)]
 rfl
theorem zU {L : List St} {S : List D3} {ids : List Int} {s : Sg} {i : Nat} (h : ids.getD i 0 ≠ 0) (h1 : jL s (bL L S ids i) = false) : iy L S ids s i = false := by
 unfold iy
 rw [decide_eq_false h, Bool.false_or, h1, Bool.and_false]
 rfl
theorem yf {L : List St} {S : List D3} {ids : List Int} {s : Sg} {i j : Nat} (h : ids.getD i 0 ≠ 0) (hj : j < i) (h0 : ids.getD j 0 ≠ 0) (h1 : dw s (bL L S ids j) (bL L S ids i) = false) : iy L S ids s i = false := by
 unfold iy
 have : ((List.range i).all fun j => decide (ids.getD j 0 = 0) || dw s (bL L S ids j) (bL L S ids i)) = false := by
  rw [List.all_eq_false]
  exact ⟨j, List.mem_range.2 hj, by rw [decide_eq_false h0, h1]; simp⟩
 rw [decide_eq_false h, Bool.false_or, this, Bool.and_false]
theorem zY {L : List St} {S : List D3} {ids : List Int} {s : Sg} {i : Nat} (h1 : s.2.1 ≠ ids.getD i 0) (h2 : jL s (bL L S ids i) = true) (h3 : ∀ j, j < i → (decide (ids.getD j 0 = 0) || dw s (bL L S ids j) (bL L S ids i)) = true) : iy L S ids s i = true := by
 unfold iy
 rw [decide_eq_true h1, h2, show ((List.range i).all fun j => decide (ids.getD j 0 = 0) || dw s (bL L S ids j) (bL L S ids i)) = true from List.all_eq_true.2 (fun j hj => h3 j (List.mem_range.1 hj))]
 simp
def oJ (L : List St) (S : List D3) (ids : List Int) (s : Sg) (i j : Nat) : Prop := ∀ l, l < j → (decide (ids.getD l 0 = 0) || dw s (bL L S ids l) (bL L S ids i)) = true
theorem lL {L : List St} {S : List D3} {ids : List Int} {s : Sg} {i j : Nat} (h : oJ L S ids s i j) (h1 : (decide (ids.getD j 0 = 0) || dw s (bL L S ids j) (bL L S ids i)) = true) : oJ L S ids s i (j + 1) := fun l hl => by
 by_cases e : l = j
 ·rw [e]; exact h1
 ·exact h l (by omega)
theorem yj (L : List St) (S : List D3) (ids : List Int) (s : Sg) (i : Nat) : oJ L S ids s i 0 := fun j hj => absurd hj (Nat.not_lt_zero _)
theorem vL (L : List St) (S : List D3) (ids : List Int) (k : Nat) (id : Int) (ar br ir : Option Addr) (cr dr er : Nat) (w : World) (hk6 : k ≤ 6) (hn : L.length ≤ 12) (hS : aR w ar L L.length) (hD : cf w br S (k + 1)) (hI : gx w ir ids k)
  (hwd : ∀ i, i ≤ k → iS (vA S i) = true) (hid : aL (atV L L.length id).1 (atV L L.length id).2.1 (atV L L.length id).2.2 = true) (hids : ∀ i, i < k → ids.getD i 0 ≠ 0 → aL (atV L L.length (ids.getD i 0)).1 (atV L L.length (ids.getD i 0)).2.1 (atV L L.length (ids.getD i 0)).2.2 = true) :
  Calls Tryz.prog 87 #[.slice ar L.length cr, .slice br (k + 1) dr, .slice ir k er, .int .i64 id] w fun e w' => e = .returned (.bool (iZ L S ids (vA S k, (id, atV L L.length id)) k)) ∧ Below w.heap.size w w' := by
 have cA := yz (fun (W : World) (q : Int) hW => nH L L.length q ar cr W (by omega) hW)
 have HS := yz hS
 have HD := yz hD
 have HWD := yz hwd
 have HDS := yz hids
 have HSO : Hid (∀ i, bL L S ids i = (vA S i, (ids.getD i 0, atV L L.length (ids.getD i 0)))) := yz (fun i => rfl)
 clear hS hD hwd hids
 obtain ⟨⟨p1, p2, p3⟩, hp⟩ : ∃ p, vA S k = p := ⟨_, rfl⟩
 obtain ⟨⟨q1, q2, q3⟩, hq⟩ : ∃ p, atV L L.length id = p := ⟨_, rfl⟩
 obtain ⟨sg, hsg⟩ : ∃ sg : Sg, sg = ((p1, p2, p3), (id, q1, q2, q3)) := ⟨_, rfl⟩
 have cV := yz (fun (W : World) hW => yy cA W id hW)
 rw [hq] at hid cV
 have HWK : Hid (iS (p1, p2, p3) = true) := yz (by rw [← hp]; exact yy HWD k (Nat.le_refl _))
 have HIDS := yz hid
 rw [hp, hq, ← hsg]
 have HSG := yz hsg
 have HP := yz hp
 clear hp hq hsg hid
 generalize L.length = n at *
 go_enter Tryz.func87, Tryz.ntmps87
 go_wp2_with fail
 refine (yy cV _ (yy HS)).mono ?_
 rintro e W1 ⟨rfl, hx⟩
 unfold sR
 simp only
 have Z := an W1 (.cells #[.int .i64 q1, .int .i64 q2, .int .i64 q3] 58)
 have HB1 := yz (ak hx Z)
 have HV1 := yz (aF W1 q1 q2 q3 58)
 clear hx Z cV
 go_wp2_with fail
 generalize W1.alloc (.cells #[.int .i64 q1, .int .i64 q2, .int .i64 q3] 58) = W2 at HB1 HV1 ⊢
 generalize W1.heap.size = vb at *
 rcases hI with h0 | ⟨ib, io, rfl, hib, hic⟩
 ·subst h0
  refine wp_loop_rounds 1 ?_
  rw [rounds_succ]
  go_wp2_with fail
  go_ret
  exact ⟨rfl, yy HB1⟩
 have HIC := yz hic
 clear hic
 rcases yy HD with h | ⟨bb, bo, rfl, hbb, hbc⟩
 ·omega
 have HBC := yz hbc
 clear hbc
 go_loopw [11] (fun kk wr => ∃ i : Nat, i ≤ k ∧ kk = .int .i64 i ∧ Hid (∀ j, j < i → iy L S ids sg j = true) ∧ Hid (aG wr vb q1 q2 q3) ∧ Hid (Below w.heap.size w wr)) (fun kk _ => k - (intOf kk).toNat)
 case atStart => exact ⟨0, by omega, rfl, yz (fun j hj => absurd hj (Nat.not_lt_zero _)), HV1, HB1⟩
 case round =>
  clear HV1 HB1
  obtain ⟨i, hi, rfl, HF, HV, HB⟩ := hrel
  by_cases hik : i < k
  ·have hik2 : (i : Int) < (k : Int) := by omega
   have ci : wr.cell? ⟨ib, io + i, none⟩ = some (.int .i64 (ids.getD i 0)) := by rw [(yy HB).cell (p := ⟨ib, io + i, none⟩) hib]; exact yy HIC i hik
   have HSI := yz (yy HSO i)
   obtain ⟨x, hxi⟩ : ∃ x, ids.getD i 0 = x := ⟨_, rfl⟩
   rw [hxi] at ci HSI
   have HX := yz hxi
   clear hxi
   by_cases hx0 : x = 0
   ·subst hx0
    have HOK := yz (xS (L := L) (S := S) (s := sg) (yy HX))
    go_wp2_with fail
    go_roundw
    case rel => exact ⟨i + 1, by omega, by go_num, yz (fun l hl => by
     by_cases e : l = i
     ·rw [e]; exact yy HOK
     ·exact yy HF l (by omega)), HV, HB⟩
    case measure => simp [intOf] <;> omega
   have hx0' : (x == 0) = false := by simp [hx0]
   have HXN : Hid (ids.getD i 0 ≠ 0) := yz (by rw [yy HX]; exact hx0)
   by_cases hxd : x = id
   ·subst hxd
    have HNO := yz (ql hik (wQ (L := L) (S := S) (s := sg) (yy HXN) (by rw [yy HX, yy HSG])))
    go_wp2_with fail
    go_ret
    exact ⟨by rw [yy HNO]; rfl, yy HB⟩
   have hxd' : (x == id) = false := by simp [hxd]
   have HDX : Hid (sg.2.1 ≠ ids.getD i 0) := yz (by rw [yy HX, yy HSG]; exact fun e => hxd e.symm)
   have cW := yz (fun (W : World) hW => yy cA W x hW)
   have hsmx := yy HDS i hik (yy HXN)
   rw [yy HX] at hsmx
   obtain ⟨⟨w1, w2, w3⟩, hwv⟩ : ∃ p, atV L n x = p := ⟨_, rfl⟩
   rw [hwv] at cW hsmx HSI
   clear hwv
   obtain ⟨⟨s1, s2, s3⟩, hsv⟩ : ∃ p, vA S i = p := ⟨_, rfl⟩
   have HSVI := yz hsv
   rw [hsv] at HSI
   have hwi := yy HWD i (by omega)
   rw [hsv] at hwi
   clear hsv
   go_wp2_with fail
   refine (yy cW _ ((yy HS).kept (yy HB))).mono ?_
   rintro e W3 ⟨rfl, hx⟩
   unfold sR
   simp only
   have Z := an W3 (.cells #[.int .i64 w1, .int .i64 w2, .int .i64 w3] 58)
   have HB3 := yz (ak (ak (yy HB) hx) Z)
   have HV3 := yz (((yy HV).kept (mM (yy HV)) hx).kept (Nat.lt_of_lt_of_le (mM (yy HV)) hx.size) Z)
   have HW3 := yz (aF W3 w1 w2 w3 58)
   clear hx Z cW ci HB HV
   go_wp2_with fail
   generalize W3.alloc (.cells #[.int .i64 w1, .int .i64 w2, .int .i64 w3] 58) = W4 at HB3 HV3 HW3 ⊢
   generalize W3.heap.size = wb at *
   have hsp := (yy HBC i (by omega)).kept hbb (yy HB3)
   have hpp := (yy HBC k (by omega)).kept hbb (yy HB3)
   rw [yy HSVI] at hsp
   rw [yy HP] at hpp
   have cC := yz (fun W => Cd (s1, s2, s3) (p1, p2, p3) (w1, w2, w3) (q1, q2, q3) hwi (yy HWK) hsmx (yy HIDS) W)
   have HFA : Hid (jL sg (bL L S ids i) = decide (nB s1 s2 s3 p1 p2 p3 w1 w2 w3 q1 q2 q3 = 0)) := yz (by rw [yy HSI, yy HSG]; rfl)
   generalize nB s1 s2 s3 p1 p2 p3 w1 w2 w3 q1 q2 q3 = cv at *
   simp only at cC
   obtain ⟨c0, c1, c2⟩ := hsp
   obtain ⟨d0, d1, d2⟩ := hpp
   obtain ⟨e0, e1, e2⟩ := yy HV3
   obtain ⟨f0, f1, f2⟩ := yy HW3
   have rc0 := cell_regrown c0
   have rc1 := cell_regrown c1
   have rc2 := cell_regrown c2
   have rd0 := cell_regrown d0
   have rd1 := cell_regrown d1
   have rd2 := cell_regrown d2
   have re0 := cell_regrown e0
   have re1 := cell_regrown e1
   have re2 := cell_regrown e2
   have rf0 := cell_regrown f0
   have rf1 := cell_regrown f1
   have rf2 := cell_regrown f2
   clear c0 c1 c2 d0 d1 d2 e0 e1 e2 f0 f1 f2
   have hik3 : (i : Int) < (k : Int) + 1 := by omega
   have hkk3 : (k : Int) < (k : Int) + 1 := by omega
   refine wp_region_quiet_below (by kernel_rfl) (by kernel_rfl) ?_
   repeat (go_big_quiet_step (first | (with_reducible exact Calls.regrown_of (yy cC _))))
   refine wpQuiet_nil ?_
   intro _ hw'
   obtain ⟨⟨dq, osq⟩, hw''⟩ := hw'
   subst hw''
   have hx := below_regrown W4 dq osq
   have HB5 := yz (ak (yy HB3) hx)
   have HV5 := yz ((yy HV3).kept (mM (yy HV3)) hx)
   have HW5 := yz ((yy HW3).kept (mM (yy HW3)) hx)
   generalize grow (redrawn W4 dq) osq = W5 at hx HB5 HV5 HW5 ⊢
   clear hx rc0 rc1 rc2 rd0 rd1 rd2 re0 re1 re2 rf0 rf1 rf2 cC HB3 HV3 HW3
   by_cases hcv : cv ≠ 0
   ·have hcv' : (cv == 0) = false := by simp [hcv]
    have HNO := yz (ql hik (zU (L := L) (S := S) (s := sg) (yy HXN) (by rw [yy HFA]; exact decide_eq_false hcv)))
    go_wp2_with fail
    go_ret
    exact ⟨by rw [yy HNO]; rfl, yy HB5⟩
   have hcv0 : cv = 0 := Decidable.not_not.1 hcv
   subst hcv0
   clear hcv
   have HFT : Hid (jL sg (bL L S ids i) = true) := yz (by rw [yy HFA]; rfl)
   clear HFA
   go_wp2_with fail
   go_loopw [13] (fun kk wr => ∃ j : Nat, j ≤ i ∧ kk = .int .i64 j ∧ Hid (oJ L S ids sg i j) ∧ Hid (aG wr vb q1 q2 q3) ∧ Hid (aG wr wb w1 w2 w3) ∧ Hid (Below w.heap.size w wr)) (fun kk _ => i - (intOf kk).toNat)
   case atStart => exact ⟨0, by omega, rfl, yz (yj _ _ _ _ _), HV5, HW5, HB5⟩
   case round =>
    clear HV5 HW5 HB5
    obtain ⟨j, hj, rfl, HL, HV, HW, HB⟩ := hrel
    by_cases hji : j < i
    ·have hji2 : (j : Int) < (i : Int) := by omega
     have hjk2 : (j : Int) < (k : Int) := by omega
     have ci : wr.cell? ⟨ib, io + j, none⟩ = some (.int .i64 (ids.getD j 0)) := by rw [(yy HB).cell (p := ⟨ib, io + j, none⟩) hib]; exact yy HIC j (by omega)
     have HSJ := yz (yy HSO j)
     obtain ⟨y, hyi⟩ : ∃ x, ids.getD j 0 = x := ⟨_, rfl⟩
     rw [hyi] at ci HSJ
     have HY := yz hyi
     clear hyi
     by_cases hy0 : y = 0
     ·subst hy0
      have HOK : Hid ((decide (ids.getD j 0 = 0) || dw sg (bL L S ids j) (bL L S ids i)) = true) := yz (by rw [yy HY]; rfl)
      go_wp2_with fail
      go_roundw
      case rel => exact ⟨j + 1, by omega, by go_num, yz (lL (yy HL) (yy HOK)), HV, HW, HB⟩
      case measure => simp [intOf] <;> omega
     have hy0' : (y == 0) = false := by simp [hy0]
     have HYN : Hid (ids.getD j 0 ≠ 0) := yz (by rw [yy HY]; exact hy0)
     have cU := yz (fun (W : World) hW => yy cA W y hW)
     have hsmy := yy HDS j (by omega) (yy HYN)
     rw [yy HY] at hsmy
     obtain ⟨⟨u1, u2, u3⟩, huv⟩ : ∃ p, atV L n y = p := ⟨_, rfl⟩
     rw [huv] at cU hsmy HSJ
     clear huv
     obtain ⟨⟨t1, t2, t3⟩, htv⟩ : ∃ p, vA S j = p := ⟨_, rfl⟩
     have HTVJ := yz htv
     rw [htv] at HSJ
     have hwj := yy HWD j (by omega)
     rw [htv] at hwj
     clear htv
     go_wp2_with fail
     refine (yy cU _ ((yy HS).kept (yy HB))).mono ?_
     rintro e W6 ⟨rfl, hx⟩
     unfold sR
     simp only
     have Z := an W6 (.cells #[.int .i64 u1, .int .i64 u2, .int .i64 u3] 58)
     have HB6 := yz (ak (ak (yy HB) hx) Z)
     have HV6 := yz (((yy HV).kept (mM (yy HV)) hx).kept (Nat.lt_of_lt_of_le (mM (yy HV)) hx.size) Z)
     have HW6 := yz (((yy HW).kept (mM (yy HW)) hx).kept (Nat.lt_of_lt_of_le (mM (yy HW)) hx.size) Z)
     have HU6 := yz (aF W6 u1 u2 u3 58)
     clear hx Z cU ci HB HV HW
     go_wp2_with fail
     generalize W6.alloc (.cells #[.int .i64 u1, .int .i64 u2, .int .i64 u3] 58) = W7 at HB6 HV6 HW6 HU6 ⊢
     generalize W6.heap.size = ub at *
     have hsp := (yy HBC i (by omega)).kept hbb (yy HB6)
     have htp := (yy HBC j (by omega)).kept hbb (yy HB6)
     have hpp := (yy HBC k (by omega)).kept hbb (yy HB6)
     rw [yy HSVI] at hsp
     rw [yy HTVJ] at htp
     rw [yy HP] at hpp
     obtain ⟨x1, x2, x3, dd, cX, cY, cZ⟩ := sk (t1, t2, t3) (s1, s2, s3) (p1, p2, p3) (gv hwj).1 (gv hwi).1 (gv (yy HWK)).1
     obtain ⟨y1, y2, y3, d2, cX2, cY2, cZ2⟩ := sk (u1, u2, u3) (w1, w2, w3) (q1, q2, q3) (bz hsmy).1 (bz hsmx).1 (bz (yy HIDS)).1
     have HSB : Hid (dw sg (bL L S ids j) (bL L S ids i) = decide (gB (qK (t1, t2, t3) (s1, s2, s3) (p1, p2, p3)) 0 = gB (qK (u1, u2, u3) (w1, w2, w3) (q1, q2, q3)) 0)) := yz (by rw [yy HSI, yy HSJ, yy HSG]; rfl)
     generalize gB (qK (t1, t2, t3) (s1, s2, s3) (p1, p2, p3)) 0 = o1 at *
     generalize gB (qK (u1, u2, u3) (w1, w2, w3) (q1, q2, q3)) 0 = o2 at *
     simp only at cX cY cZ cX2 cY2 cZ2
     obtain ⟨c0, c1, c2⟩ := hsp
     obtain ⟨d0, d1, d2'⟩ := hpp
     obtain ⟨e0, e1, e2⟩ := yy HV6
     obtain ⟨f0, f1, f2⟩ := yy HW6
     obtain ⟨g0, g1, g2⟩ := yy HU6
     obtain ⟨h0, h1, h2⟩ := htp
     have rc0 := cell_regrown c0
     have rc1 := cell_regrown c1
     have rc2 := cell_regrown c2
     have rd0 := cell_regrown d0
     have rd1 := cell_regrown d1
     have rd2 := cell_regrown d2'
     have re0 := cell_regrown e0
     have re1 := cell_regrown e1
     have re2 := cell_regrown e2
     have rf0 := cell_regrown f0
     have rf1 := cell_regrown f1
     have rf2 := cell_regrown f2
     have rg0 := cell_regrown g0
     have rg1 := cell_regrown g1
     have rg2 := cell_regrown g2
     have rh0 := cell_regrown h0
     have rh1 := cell_regrown h1
     have rh2 := cell_regrown h2
     clear c0 c1 c2 d0 d1 d2' e0 e1 e2 f0 f1 f2 g0 g1 g2 h0 h1 h2
     have hjk3 : (j : Int) < (k : Int) + 1 := by omega
     refine wp_region_quiet_below (by kernel_rfl) (by kernel_rfl) ?_
     repeat (go_big_quiet_step (first | (with_reducible exact Calls.regrown_of (yy cX _)) | (with_reducible exact Calls.regrown_of (yy cY _)) | (with_reducible exact Calls.regrown_of (yy cZ _)) | (with_reducible exact Calls.regrown_of (yy cX2 _)) | (with_reducible exact Calls.regrown_of (yy cY2 _)) | (with_reducible exact Calls.regrown_of (yy cZ2 _))))
     refine wpQuiet_nil ?_
     intro _ hw'
     obtain ⟨⟨dq, osq⟩, hw''⟩ := hw'
     subst hw''
     have hx := below_regrown W7 dq osq
     have HB8 := yz (ak (yy HB6) hx)
     have HV8 := yz ((yy HV6).kept (mM (yy HV6)) hx)
     have HW8 := yz ((yy HW6).kept (mM (yy HW6)) hx)
     generalize grow (redrawn W7 dq) osq = W8 at hx HB8 HV8 HW8 ⊢
     clear hx rc0 rc1 rc2 rd0 rd1 rd2 re0 re1 re2 rf0 rf1 rf2 rg0 rg1 rg2 rh0 rh1 rh2 cX cY cZ cX2 cY2 cZ2 HB6 HV6 HW6 HU6
     by_cases ho : o1 = o2
     ·subst ho
      have HOK : Hid ((decide (ids.getD j 0 = 0) || dw sg (bL L S ids j) (bL L S ids i)) = true) := yz (by rw [yy HSB]; simp)
      go_wp2_with fail
      go_roundw
      case rel => first | exact ⟨j + 1, by omega, by go_num, yz (lL (yy HL) (yy HOK)), HV8, HW8, HB8⟩ | exact ⟨j + 1, by omega, by omega, yz (lL (yy HL) (yy HOK))⟩
      case measure => simp [intOf] <;> omega
     ·have ho' : (o1 == o2) = false := by simp [ho]
      have HNO := yz (ql hik (yf (L := L) (S := S) (s := sg) (yy HXN) hji (yy HYN) (by rw [yy HSB]; exact decide_eq_false ho)))
      go_wp2_with fail
      go_ret
      exact ⟨by rw [yy HNO]; rfl, yy HB8⟩
    ·have hji' : j = i := by omega
     subst hji'
     have HOK := yz (zY (yy HDX) (yy HFT) (yy HL))
     go_wp2_with fail
     go_roundw
     case rel => exact ⟨j + 1, by omega, by go_num, yz (fun l hl => by
      by_cases e : l = j
      ·rw [e]; exact yy HOK
      ·exact yy HF l (by omega)), HV, HB⟩
     case measure => simp [intOf] <;> omega
  ·have hik' : i = k := by omega
   subst hik'
   have HY := yz (zx (yy HF))
   go_wp2_with fail
   go_ret
   exact ⟨by rw [yy HY]; rfl, yy HB⟩
theorem cf.sub {w : World} {a : Option Addr} {L : List D3} {n m : Nat} (h : cf w a L n) (hm : m ≤ n) : cf w a L m := h.less hm
theorem gx.less {w : World} {a : Option Addr} {L : List Int} {n m : Nat} (h : gx w a L n) (hm : m ≤ n) : gx w a L m := by
 rcases h with h | ⟨b, o, ha, hb, hc⟩
 ·exact .inl (by omega)
 ·exact .inr ⟨b, o, ha, hb, fun i hi => hc i (by omega)⟩
end
end Go.Proofs.YtlleafjdgblhcaaGreatDoor
