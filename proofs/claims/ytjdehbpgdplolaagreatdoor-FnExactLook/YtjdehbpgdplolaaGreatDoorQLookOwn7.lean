/- Several texts in one: NaA, WideT, IdA, IdB. -/
import Derived.Lib.QuietBelow
import Derived.Deep.QuietTactic
import Derived.BigQuiet
import Derived.Test.YtjdehbpgdplolaaGreatDoorQLookOwn6
import Derived.Test.YtjdehbpgdplolaaGreatDoorQLookOwn3
import Derived.Test.YtjdehbpgdplolaaGreatDoorQLookOwn2
import Derived.Test.YtjdehbpgdplolaaGreatDoorQLookOwn1
import Derived.Test.YtjdehbpgdplolaaGreatDoorQLookOwn4
namespace Go.Proofs.YtjdehbpgdplolaaGreatDoor
open Go.RowKit Go.Sort
set_option linter.unusedVariables false

def sgL (s : Sg) : List Value := [.int .i64 s.1.1, .int .i64 s.1.2.1, .int .i64 s.1.2.2, .int .i64 s.2.1, .int .i64 s.2.2.1, .int .i64 s.2.2.2.1, .int .i64 s.2.2.2.2]
def sgV (s : Sg) : Value := .agg #[.int .i64 s.1.1, .int .i64 s.1.2.1, .int .i64 s.1.2.2, .int .i64 s.2.1, .int .i64 s.2.2.1, .int .i64 s.2.2.2.1, .int .i64 s.2.2.2.2]
def SgAt (w : World) (b o : Nat) (s : Sg) : Prop := w.cell? ⟨b, o, none⟩ = some (.int .i64 s.1.1) ∧ w.cell? ⟨b, o + 1, none⟩ = some (.int .i64 s.1.2.1) ∧ w.cell? ⟨b, o + 2, none⟩ = some (.int .i64 s.1.2.2) ∧ w.cell? ⟨b, o + 3, none⟩ = some (.int .i64 s.2.1) ∧ w.cell? ⟨b, o + 4, none⟩ = some (.int .i64 s.2.2.1) ∧ w.cell? ⟨b, o + 5, none⟩ = some (.int .i64 s.2.2.2.1) ∧ w.cell? ⟨b, o + 6, none⟩ = some (.int .i64 s.2.2.2.2)
theorem SgAt.lt {w : World} {b o : Nat} {s : Sg} (h : SgAt w b o s) : b < w.heap.size := World.block_lt_of_cell? w _ h.1
theorem SgAt.kept {w w' : World} {b o : Nat} {s : Sg} (h : SgAt w b o s) (hB : Below w.heap.size w w') : SgAt w' b o s := by
  have hb := h.lt
  obtain ⟨h0, h1, h2, h3, h4, h5, h6⟩ := h
  exact ⟨by rw [hB.cell (p := ⟨b, o, none⟩) hb]; exact h0, by rw [hB.cell (p := ⟨b, o + 1, none⟩) hb]; exact h1, by rw [hB.cell (p := ⟨b, o + 2, none⟩) hb]; exact h2, by rw [hB.cell (p := ⟨b, o + 3, none⟩) hb]; exact h3, by rw [hB.cell (p := ⟨b, o + 4, none⟩) hb]; exact h4, by rw [hB.cell (p := ⟨b, o + 5, none⟩) hb]; exact h5, by rw [hB.cell (p := ⟨b, o + 6, none⟩) hb]; exact h6⟩
theorem sgAt_new (w : World) (s : Sg) (t : TypeId) : SgAt (w.alloc (.cells #[.int .i64 s.1.1, .int .i64 s.1.2.1, .int .i64 s.1.2.2, .int .i64 s.2.1, .int .i64 s.2.2.1, .int .i64 s.2.2.2.1, .int .i64 s.2.2.2.2] t)) w.heap.size 0 s := by
  refine ⟨?_, ?_, ?_, ?_, ?_, ?_, ?_⟩ <;> simp
/-- the first n sights of A lie at a -/
def Sights (w : World) (a : Option Addr) (A : List Sg) (n : Nat) : Prop := n = 0 ∨ ∃ b o, a = some ⟨b, o, none⟩ ∧ b < w.heap.size ∧ ∀ i, i < n → SgAt w b (o + i * 7) (sgA A i)
theorem Sights.kept {w w' : World} {a : Option Addr} {A : List Sg} {n : Nat} (h : Sights w a A n) (hB : Below w.heap.size w w') : Sights w' a A n := by
  rcases h with h | ⟨b, o, ha, hb, hc⟩
  · exact .inl h
  · exact .inr ⟨b, o, ha, Nat.lt_of_lt_of_le hb hB.size, fun i hi => (hc i hi).kept hB⟩
theorem Sights.less {w : World} {a : Option Addr} {A : List Sg} {n m : Nat} (h : Sights w a A n) (hm : m ≤ n) : Sights w a A m := by
  rcases h with h | ⟨b, o, ha, hb, hc⟩
  · exact .inl (by omega)
  · exact .inr ⟨b, o, ha, hb, fun i hi => hc i (by omega)⟩
set_option maxHeartbeats 1000000 in
set_option maxRecDepth 100000 in
theorem isAsFar_any (s t : Sg) (w : World) :
    Calls Tryz.prog 112 #[sgV s, sgV t] w fun e w' => e = .returned (.bool (farB s t)) ∧ Below w.heap.size w w' := by
  obtain ⟨⟨a1, a2, a3⟩, a4, a5, a6, a7⟩ := s
  obtain ⟨⟨b1, b2, b3⟩, b4, b5, b6, b7⟩ := t
  unfold sgV farB
  simp only
  have HB := hide (below2 w (.cells #[.int .i64 a1, .int .i64 a2, .int .i64 a3, .int .i64 a4, .int .i64 a5, .int .i64 a6, .int .i64 a7] 161) (.cells #[.int .i64 b1, .int .i64 b2, .int .i64 b3, .int .i64 b4, .int .i64 b5, .int .i64 b6, .int .i64 b7] 161))
  go_enter Tryz.func112, Tryz.ntmps112
  go_wp2_with fail
  refine (cosCmp_any b1 b2 b3 a1 a2 a3 b5 b6 b7 a5 a6 a7 _).mono ?_
  rintro e w1 ⟨rfl, hx⟩
  have HB1 := hide (below_call (unhide HB) hx)
  clear hx
  go_wp2_with fail
  go_ret
  exact ⟨rfl, unhide HB1⟩
set_option maxHeartbeats 1000000 in
set_option maxRecDepth 100000 in
theorem isOnSide_any (s f g : Sg) (w : World) :
    Calls Tryz.prog 113 #[sgV s, sgV f, sgV g] w fun e w' => e = .returned (.bool (sideB s f g)) ∧ Below w.heap.size w w' := by
  have A0 := ((sgAt_new w s 161).kept (below1 _ (.cells #[.int .i64 f.1.1, .int .i64 f.1.2.1, .int .i64 f.1.2.2, .int .i64 f.2.1, .int .i64 f.2.2.1, .int .i64 f.2.2.2.1, .int .i64 f.2.2.2.2] 161))).kept (below1 _ (.cells #[.int .i64 g.1.1, .int .i64 g.1.2.1, .int .i64 g.1.2.2, .int .i64 g.2.1, .int .i64 g.2.2.1, .int .i64 g.2.2.2.1, .int .i64 g.2.2.2.2] 161))
  have F0 := (sgAt_new (w.alloc (.cells #[.int .i64 s.1.1, .int .i64 s.1.2.1, .int .i64 s.1.2.2, .int .i64 s.2.1, .int .i64 s.2.2.1, .int .i64 s.2.2.2.1, .int .i64 s.2.2.2.2] 161)) f 161).kept (below1 _ (.cells #[.int .i64 g.1.1, .int .i64 g.1.2.1, .int .i64 g.1.2.2, .int .i64 g.2.1, .int .i64 g.2.2.1, .int .i64 g.2.2.2.1, .int .i64 g.2.2.2.2] 161))
  have G0 := sgAt_new ((w.alloc (.cells #[.int .i64 s.1.1, .int .i64 s.1.2.1, .int .i64 s.1.2.2, .int .i64 s.2.1, .int .i64 s.2.2.1, .int .i64 s.2.2.2.1, .int .i64 s.2.2.2.2] 161)).alloc (.cells #[.int .i64 f.1.1, .int .i64 f.1.2.1, .int .i64 f.1.2.2, .int .i64 f.2.1, .int .i64 f.2.2.1, .int .i64 f.2.2.2.1, .int .i64 f.2.2.2.2] 161)) g 161
  have B0 := below3 w (.cells #[.int .i64 s.1.1, .int .i64 s.1.2.1, .int .i64 s.1.2.2, .int .i64 s.2.1, .int .i64 s.2.2.1, .int .i64 s.2.2.2.1, .int .i64 s.2.2.2.2] 161) (.cells #[.int .i64 f.1.1, .int .i64 f.1.2.1, .int .i64 f.1.2.2, .int .i64 f.2.1, .int .i64 f.2.2.1, .int .i64 f.2.2.2.1, .int .i64 f.2.2.2.2] 161) (.cells #[.int .i64 g.1.1, .int .i64 g.1.2.1, .int .i64 g.1.2.2, .int .i64 g.2.1, .int .i64 g.2.2.1, .int .i64 g.2.2.2.1, .int .i64 g.2.2.2.2] 161)
  have e1 : (w.alloc (.cells #[.int .i64 s.1.1, .int .i64 s.1.2.1, .int .i64 s.1.2.2, .int .i64 s.2.1, .int .i64 s.2.2.1, .int .i64 s.2.2.2.1, .int .i64 s.2.2.2.2] 161)).heap.size = w.heap.size + 1 := by simp
  have e2 : ((w.alloc (.cells #[.int .i64 s.1.1, .int .i64 s.1.2.1, .int .i64 s.1.2.2, .int .i64 s.2.1, .int .i64 s.2.2.1, .int .i64 s.2.2.2.1, .int .i64 s.2.2.2.2] 161)).alloc (.cells #[.int .i64 f.1.1, .int .i64 f.1.2.1, .int .i64 f.1.2.2, .int .i64 f.2.1, .int .i64 f.2.2.1, .int .i64 f.2.2.2.1, .int .i64 f.2.2.2.2] 161)).heap.size = w.heap.size + 1 + 1 := by simp
  rw [e1] at F0
  rw [e2] at G0
  clear e1 e2
  obtain ⟨⟨a1, a2, a3⟩, a4, a5, a6, a7⟩ := s
  obtain ⟨⟨b1, b2, b3⟩, b4, b5, b6, b7⟩ := f
  obtain ⟨⟨c1, c2, c3⟩, c4, c5, c6, c7⟩ := g
  unfold sgV sideB detD
  simp only at A0 F0 G0 B0 ⊢
  have cD := hide (fun W => det_any b1 b2 b3 c1 c2 c3 a1 a2 a3 W)
  have cE := hide (fun W => det_any b5 b6 b7 c5 c6 c7 a5 a6 a7 W)
  generalize detI b1 b2 b3 c1 c2 c3 a1 a2 a3 = d1 at *
  generalize detI b5 b6 b7 c5 c6 c7 a5 a6 a7 = d2 at *
  have cO := hide (fun W => order_any d1 0 W)
  have cP := hide (fun W => order_any d2 0 W)
  generalize ordI d1 0 = o1 at *
  generalize ordI d2 0 = o2 at *
  go_enter Tryz.func113, Tryz.ntmps113
  go_wp2_with fail
  generalize ((w.alloc (.cells #[.int .i64 a1, .int .i64 a2, .int .i64 a3, .int .i64 a4, .int .i64 a5, .int .i64 a6, .int .i64 a7] 161)).alloc (.cells #[.int .i64 b1, .int .i64 b2, .int .i64 b3, .int .i64 b4, .int .i64 b5, .int .i64 b6, .int .i64 b7] 161)).alloc (.cells #[.int .i64 c1, .int .i64 c2, .int .i64 c3, .int .i64 c4, .int .i64 c5, .int .i64 c6, .int .i64 c7] 161) = W0 at A0 F0 G0 B0 ⊢
  refine (unhide cD _).mono ?_
  rintro e w1 ⟨rfl, hx⟩
  have A1 := A0.kept hx
  have F1 := F0.kept hx
  have G1 := G0.kept hx
  have B1 := below_call B0 hx
  clear hx A0 F0 G0 B0
  go_wp2_with fail
  refine (unhide cO _).mono ?_
  rintro e w2 ⟨rfl, rfl⟩
  obtain ⟨x0, x1, x2, x3, x4, x5, x6⟩ := A1
  obtain ⟨y0, y1, y2, y3, y4, y5, y6⟩ := F1
  obtain ⟨z0, z1, z2, z3, z4, z5, z6⟩ := G1
  simp only [Nat.zero_add] at x0 x1 x2 x3 x4 x5 x6 y0 y1 y2 y3 y4 y5 y6 z0 z1 z2 z3 z4 z5 z6
  go_wp2_with fail
  refine (unhide cE _).mono ?_
  rintro e w3 ⟨rfl, hx⟩
  have B2 := below_call B1 hx
  clear hx x0 x1 x2 x3 x4 x5 x6 y0 y1 y2 y3 y4 y5 y6 z0 z1 z2 z3 z4 z5 z6 B1
  go_wp2_with fail
  refine (unhide cP _).mono ?_
  rintro e w4 ⟨rfl, rfl⟩
  go_wp2_with fail
  go_ret
  exact ⟨by first | rfl | simp [go_sem], B2⟩
set_option maxHeartbeats 2000000 in
set_option maxRecDepth 100000 in
theorem fitsBehind_any (A : List Sg) (n : Nat) (s : Sg) (a : Option Addr) (c : Nat) (w : World) (hn : n ≤ 1048576) (hcap : n ≤ c) (hc9 : c ≤ 9223372036854775807) (hS : Sights w a A n) :
    Calls Tryz.prog 108 #[sgV s, .slice a n c] w fun e w' => e = .returned (.bool (fitsB A s n)) ∧ Below w.heap.size w w' := by
  have cF : Hid (∀ (t : Sg) (W : World), Calls Tryz.prog 112 #[sgV s, sgV t] W fun e w' => e = .returned (.bool (farB s t)) ∧ Below W.heap.size W w') := hide (fun t W => isAsFar_any s t W)
  have cS : Hid (∀ (f g : Sg) (W : World), Calls Tryz.prog 113 #[sgV s, sgV f, sgV g] W fun e w' => e = .returned (.bool (sideB s f g)) ∧ Below W.heap.size W w') := hide (fun f g W => isOnSide_any s f g W)
  have V0 := hide (sgAt_new w s 161)
  have B0 := hide (below1 w (.cells #[.int .i64 s.1.1, .int .i64 s.1.2.1, .int .i64 s.1.2.2, .int .i64 s.2.1, .int .i64 s.2.2.1, .int .i64 s.2.2.2.1, .int .i64 s.2.2.2.2] 161))
  obtain ⟨⟨a1, a2, a3⟩, a4, a5, a6, a7⟩ := s
  simp only at V0 B0
  have cF' : Hid (∀ (t : Sg) (W : World), Calls Tryz.prog 112 #[.agg #[.int .i64 a1, .int .i64 a2, .int .i64 a3, .int .i64 a4, .int .i64 a5, .int .i64 a6, .int .i64 a7], sgV t] W fun e w' => e = .returned (.bool (farB ((a1, a2, a3), a4, a5, a6, a7) t)) ∧ Below W.heap.size W w') := cF
  have cS' : Hid (∀ (f g : Sg) (W : World), Calls Tryz.prog 113 #[.agg #[.int .i64 a1, .int .i64 a2, .int .i64 a3, .int .i64 a4, .int .i64 a5, .int .i64 a6, .int .i64 a7], sgV f, sgV g] W fun e w' => e = .returned (.bool (sideB ((a1, a2, a3), a4, a5, a6, a7) f g)) ∧ Below W.heap.size W w') := cS
  clear cF cS
  show Calls Tryz.prog 108 #[.agg #[.int .i64 a1, .int .i64 a2, .int .i64 a3, .int .i64 a4, .int .i64 a5, .int .i64 a6, .int .i64 a7], .slice a n c] w _
  rcases hS with rfl | ⟨b, o, rfl, hb, hc⟩
  · go_enter Tryz.func108, Tryz.ntmps108
    go_wp2_with fail
    refine wp_loop_rounds 1 ?_
    rw [rounds_succ]
    go_wp2_with fail
    go_ret
    exact ⟨rfl, unhide B0⟩
  have HC := hide hc
  clear hc
  obtain ⟨sg, hsg⟩ : ∃ sg : Sg, sg = ((a1, a2, a3), a4, a5, a6, a7) := ⟨_, rfl⟩
  rw [← hsg] at cF' cS' V0
  rw [← hsg]
  have HSG := hide hsg
  clear hsg
  go_enter Tryz.func108, Tryz.ntmps108
  go_wp2_with fail
  go_loopw [11] (fun i wr => ∃ k : Nat, k ≤ n ∧ i = .int .i64 k ∧ Hid (∀ j, j < k → okWith A sg j = true) ∧ Hid (Below w.heap.size w wr) ∧ Hid (SgAt wr w.heap.size 0 sg)) (fun i _ => n - (intOf i).toNat)
  case atStart => exact ⟨0, by omega, rfl, hide (fun j hj => absurd hj (Nat.not_lt_zero _)), B0, V0⟩
  case round =>
    clear B0 V0
    obtain ⟨k, hk, rfl, HF, HB, HV⟩ := hrel
    by_cases hkn : k < n
    · have hkn2 : (k : Int) < (n : Int) := by omega
      obtain ⟨t, ht⟩ : ∃ t, sgA A k = t := ⟨_, rfl⟩
      have hst := ((unhide HC) k hkn).kept (unhide HB)
      rw [ht] at hst
      have HT := hide ht
      clear ht
      have cFt := hide (unhide cF' t)
      have cSt := hide (fun f W => unhide cS' f t W)
      have HFA : Hid (∀ b, farB sg t = b → farB sg (sgA A k) = b) := hide (fun b h => by rw [unhide HT]; exact h)
      have HID : Hid (sg.2.1 = a4) := hide (by rw [unhide HSG])
      have HTI : Hid ((sgA A k).2.1 = t.2.1) := hide (by rw [unhide HT])
      have Z := below1 wr (.cells #[.int .i64 t.1.1, .int .i64 t.1.2.1, .int .i64 t.1.2.2, .int .i64 t.2.1, .int .i64 t.2.2.1, .int .i64 t.2.2.2.1, .int .i64 t.2.2.2.2] 161)
      have T1 := hide (sgAt_new wr t 161)
      have HB1 := hide (below_call (unhide HB) Z)
      have HV1 := hide ((unhide HV).kept Z)
      clear Z HB HV
      obtain ⟨⟨b1, b2, b3⟩, b4, b5, b6, b7⟩ := t
      have cFt' : Hid (∀ (W : World), Calls Tryz.prog 112 #[.agg #[.int .i64 a1, .int .i64 a2, .int .i64 a3, .int .i64 a4, .int .i64 a5, .int .i64 a6, .int .i64 a7], .agg #[.int .i64 b1, .int .i64 b2, .int .i64 b3, .int .i64 b4, .int .i64 b5, .int .i64 b6, .int .i64 b7]] W fun e w' => e = .returned (.bool (farB sg ((b1, b2, b3), b4, b5, b6, b7))) ∧ Below W.heap.size W w') := cFt
      have cSt' : Hid (∀ (f : Sg) (W : World), Calls Tryz.prog 113 #[.agg #[.int .i64 a1, .int .i64 a2, .int .i64 a3, .int .i64 a4, .int .i64 a5, .int .i64 a6, .int .i64 a7], sgV f, .agg #[.int .i64 b1, .int .i64 b2, .int .i64 b3, .int .i64 b4, .int .i64 b5, .int .i64 b6, .int .i64 b7]] W fun e w' => e = .returned (.bool (sideB sg f ((b1, b2, b3), b4, b5, b6, b7))) ∧ Below W.heap.size W w') := cSt
      clear cFt cSt
      have HTI' : Hid ((sgA A k).2.1 = b4) := HTI
      clear HTI
      obtain ⟨c0, c1, c2, c3, c4, c5, c6⟩ := hst
      simp only at c0 c1 c2 c3 c4 c5 c6 T1 HB1 HV1
      obtain ⟨tg, htg⟩ : ∃ sg : Sg, sg = ((b1, b2, b3), b4, b5, b6, b7) := ⟨_, rfl⟩
      rw [← htg] at cFt' cSt' T1 HFA HT
      have HTG := hide htg
      clear htg
      obtain ⟨v0, v1, v2, v3, v4, v5, v6⟩ := unhide HV1
      obtain ⟨x0, x1, x2, x3, x4, x5, x6⟩ := unhide T1
      rw [unhide HSG] at v0 v1 v2 v3 v4 v5 v6
      rw [unhide HTG] at x0 x1 x2 x3 x4 x5 x6
      simp only [Nat.zero_add] at v0 v1 v2 v3 v4 v5 v6 x0 x1 x2 x3 x4 x5 x6
      by_cases hid : a4 = b4
      · subst hid
        have HNO := hide (fits_no (A := A) (s := sg) hkn (okWith_id (by rw [unhide HID, unhide HTI'])))
        go_wp2_with fail
        go_ret
        exact ⟨by rw [unhide HNO]; rfl, unhide HB1⟩
      have hid' : (a4 == b4) = false := by simp [hid]
      go_wp2_with fail
      clear c0 c1 c2 c3 c4 c5 c6 v0 v1 v2 v3 v4 v5 v6 x0 x1 x2 x3 x4 x5 x6
      generalize wr.alloc (.cells #[.int .i64 b1, .int .i64 b2, .int .i64 b3, .int .i64 b4, .int .i64 b5, .int .i64 b6, .int .i64 b7] 161) = W1 at T1 HB1 HV1 ⊢
      generalize wr.heap.size = tb at *
      refine (unhide cFt' _).mono ?_
      rintro e W2 ⟨rfl, hx⟩
      have T2 := hide ((unhide T1).kept hx)
      have HB2 := hide (below_call (unhide HB1) hx)
      have HV2 := hide ((unhide HV1).kept hx)
      clear hx T1 HB1 HV1
      cases hfar : farB sg tg
      · have HNO := hide (fits_no (A := A) (s := sg) hkn (okWith_far (unhide HFA _ hfar)))
        go_wp2_with fail
        go_ret
        exact ⟨by rw [unhide HNO]; rfl, unhide HB2⟩
      have HFT := hide (unhide HFA _ hfar)
      have hkc : (k : Int) ≤ (c : Int) := by omega
      clear hfar HFA cFt'
      go_wp2_with fail
      go_loopw [33] (fun i wr => ∃ j : Nat, j ≤ k ∧ i = .int .i64 j ∧ Hid (∀ l, l < j → sideB sg (sgA A l) tg = true) ∧ Hid (Below w.heap.size w wr) ∧ Hid (SgAt wr w.heap.size 0 sg) ∧ Hid (SgAt wr tb 0 tg)) (fun i _ => k - (intOf i).toNat)
      case atStart => exact ⟨0, by omega, rfl, hide (fun j hj => absurd hj (Nat.not_lt_zero _)), HB2, HV2, T2⟩
      case round =>
        clear HB2 HV2 T2
        obtain ⟨j, hj, rfl, HL, HB, HV, HT2⟩ := hrel
        by_cases hjk : j < k
        · have hjk2 : (j : Int) < (k : Int) := by omega
          obtain ⟨f, hf⟩ : ∃ t, sgA A j = t := ⟨_, rfl⟩
          have hst := ((unhide HC) j (by omega)).kept (unhide HB)
          rw [hf] at hst
          have HFE := hide hf
          clear hf
          have cSf := hide (unhide cSt' f)
          have Z := below1 wr (.cells #[.int .i64 f.1.1, .int .i64 f.1.2.1, .int .i64 f.1.2.2, .int .i64 f.2.1, .int .i64 f.2.2.1, .int .i64 f.2.2.2.1, .int .i64 f.2.2.2.2] 161)
          have F1 := sgAt_new wr f 161
          have HB1 := hide (below_call (unhide HB) Z)
          have HV1 := hide ((unhide HV).kept Z)
          have HT3 := hide ((unhide HT2).kept Z)
          clear Z HB HV HT2
          have HSB : Hid (sideB sg (sgA A j) tg = sideB sg f tg) := hide (by rw [unhide HFE])
          have HSC : Hid (sideB sg (sgA A j) (sgA A k) = sideB sg f tg) := hide (by rw [unhide HFE, unhide HT])
          have cSg : Hid (∀ (W : World), Calls Tryz.prog 113 #[.agg #[.int .i64 a1, .int .i64 a2, .int .i64 a3, .int .i64 a4, .int .i64 a5, .int .i64 a6, .int .i64 a7], sgV f, .agg #[.int .i64 b1, .int .i64 b2, .int .i64 b3, .int .i64 b4, .int .i64 b5, .int .i64 b6, .int .i64 b7]] W fun e w' => e = .returned (.bool (sideB sg f tg)) ∧ Below W.heap.size W w') := cSf
          clear cSf
          generalize sideB sg f tg = sb at *
          obtain ⟨⟨f1, f2, f3⟩, f4, f5, f6, f7⟩ := f
          have cSh : Hid (∀ (W : World), Calls Tryz.prog 113 #[.agg #[.int .i64 a1, .int .i64 a2, .int .i64 a3, .int .i64 a4, .int .i64 a5, .int .i64 a6, .int .i64 a7], .agg #[.int .i64 f1, .int .i64 f2, .int .i64 f3, .int .i64 f4, .int .i64 f5, .int .i64 f6, .int .i64 f7], .agg #[.int .i64 b1, .int .i64 b2, .int .i64 b3, .int .i64 b4, .int .i64 b5, .int .i64 b6, .int .i64 b7]] W fun e w' => e = .returned (.bool sb) ∧ Below W.heap.size W w') := cSg
          clear cSg
          obtain ⟨c0, c1, c2, c3, c4, c5, c6⟩ := hst
          simp only at c0 c1 c2 c3 c4 c5 c6 F1 HB1 HV1 HT3
          obtain ⟨v0, v1, v2, v3, v4, v5, v6⟩ := unhide HV1
          obtain ⟨x0, x1, x2, x3, x4, x5, x6⟩ := unhide HT3
          obtain ⟨y0, y1, y2, y3, y4, y5, y6⟩ := F1
          rw [unhide HSG] at v0 v1 v2 v3 v4 v5 v6
          rw [unhide HTG] at x0 x1 x2 x3 x4 x5 x6
          simp only [Nat.zero_add] at v0 v1 v2 v3 v4 v5 v6 x0 x1 x2 x3 x4 x5 x6 y0 y1 y2 y3 y4 y5 y6
          go_wp2_with fail
          clear c0 c1 c2 c3 c4 c5 c6 v0 v1 v2 v3 v4 v5 v6 x0 x1 x2 x3 x4 x5 x6 y0 y1 y2 y3 y4 y5 y6
          refine (unhide cSh _).mono ?_
          rintro e W4 ⟨rfl, hx⟩
          have HB4 := hide (below_call (unhide HB1) hx)
          have HV4 := hide ((unhide HV1).kept hx)
          have HT4 := hide ((unhide HT3).kept hx)
          clear hx HB1 HV1 HT3
          cases sb
          · have HNO := hide (fits_no (A := A) (s := sg) hkn (okWith_side hjk (unhide HSC)))
            go_wp2_with fail
            go_ret
            exact ⟨by rw [unhide HNO]; rfl, unhide HB4⟩
          · go_wp2_with fail
            go_roundw
            case rel => exact ⟨j + 1, by omega, by go_num, hide (fun l hl => by
              by_cases e : l = j
              · rw [e]; exact unhide HSB
              · exact unhide HL l (by omega)), HB4, HV4, HT4⟩
            case measure => simp [intOf]; omega
        · have hjk' : j = k := by omega
          subst hjk'
          have HOK : Hid (okWith A sg j = true) := hide (okWith_yes (by rw [unhide HID, unhide HTI']; exact hid) (unhide HFT) (fun l hl => by rw [unhide HT]; exact unhide HL l hl))
          go_wp2_with fail
          go_roundw
          case rel => exact ⟨j + 1, by omega, by go_num, hide (fun l hl => by
            by_cases e : l = j
            · rw [e]; exact unhide HOK
            · exact unhide HF l (by omega)), HB, HV⟩
          case measure => simp [intOf]; omega
    · have hkn' : k = n := by omega
      subst hkn'
      have HY := hide (fits_yes (A := A) (s := sg) (unhide HF))
      go_wp2_with fail
      go_ret
      exact ⟨by rw [unhide HY]; rfl, unhide HB⟩
end Go.Proofs.YtjdehbpgdplolaaGreatDoor

namespace Go.Proofs.YtjdehbpgdplolaaGreatDoor
open Go.RowKit Go.Sort
set_option linter.unusedVariables false

set_option maxRecDepth 100000 in
theorem l04Wide_any (x y z : Int) (w : World) :
    Calls Tryz.prog 39 #[.agg #[.int .i64 x, .int .i64 y, .int .i64 z]] w fun e w' => e = .returned (.bool (wideB x y z)) ∧ Below w.heap.size w w' := by
  have A0 := vecAt_new w x y z 54
  have B0 := below1 w (.cells #[.int .i64 x, .int .i64 y, .int .i64 z] 54)
  have cR := hide (fun W => specRight_any x y z W)
  have cW := hide (fun W => l02Within_any 1800 x y z W (by omega) (by omega))
  have HW : Hid (wideB x y z = (rightB x y z && withinB 1800 x y z)) := hide rfl
  generalize wideB x y z = wv at *
  generalize withinB 1800 x y z = wi at *
  go_enter Tryz.func39, Tryz.ntmps39
  go_wp2_with fail
  refine (unhide cR _).mono ?_
  rintro e w1 ⟨rfl, hx⟩
  obtain ⟨c0, c1, c2⟩ := A0.kept (World.block_lt_of_cell? _ _ A0.1) hx
  have B1 := below_call B0 hx
  clear hx B0 A0
  cases hr : rightB x y z
  · rw [hr] at HW
    go_wp2_with fail
    go_ret
    exact ⟨by rw [unhide HW]; rfl, B1⟩
  · rw [hr] at HW
    go_wp2_with fail
    refine (unhide cW _).mono ?_
    rintro e w2 ⟨rfl, hx⟩
    have B2 := below_call B1 hx
    clear hx B1
    go_wp2_with fail
    go_ret
    exact ⟨by rw [unhide HW]; rfl, B2⟩
end Go.Proofs.YtjdehbpgdplolaaGreatDoor

namespace Go.Proofs.YtjdehbpgdplolaaGreatDoor
open Go.RowKit Go.Sort
set_option linter.unusedVariables false

def DirAt (w : World) (b o : Nat) (v : D3) : Prop := w.cell? ⟨b, o, none⟩ = some (.int .i64 v.1) ∧ w.cell? ⟨b, o + 1, none⟩ = some (.int .i64 v.2.1) ∧ w.cell? ⟨b, o + 2, none⟩ = some (.int .i64 v.2.2)
/-- the first n directions of L lie at a -/
def Dirs (w : World) (a : Option Addr) (L : List D3) (n : Nat) : Prop := n = 0 ∨ ∃ b o, a = some ⟨b, o, none⟩ ∧ b < w.heap.size ∧ ∀ i, i < n → DirAt w b (o + i * 3) (vA L i)
theorem DirAt.kept {w w' : World} {b o : Nat} {s : D3} (h : DirAt w b o s) (hb : b < w.heap.size) (hB : Below w.heap.size w w') : DirAt w' b o s := by
  obtain ⟨h0, h1, h2⟩ := h
  exact ⟨by rw [hB.cell (p := ⟨b, o, none⟩) hb]; exact h0, by rw [hB.cell (p := ⟨b, o + 1, none⟩) hb]; exact h1, by rw [hB.cell (p := ⟨b, o + 2, none⟩) hb]; exact h2⟩
theorem Dirs.kept {w w' : World} {a : Option Addr} {L : List D3} {n : Nat} (h : Dirs w a L n) (hB : Below w.heap.size w w') : Dirs w' a L n := by
  rcases h with h | ⟨b, o, ha, hb, hc⟩
  · exact .inl h
  · exact .inr ⟨b, o, ha, Nat.lt_of_lt_of_le hb hB.size, fun i hi => (hc i hi).kept hb hB⟩
theorem Dirs.less {w : World} {a : Option Addr} {L : List D3} {n m : Nat} (h : Dirs w a L n) (hm : m ≤ n) : Dirs w a L m := by
  rcases h with h | ⟨b, o, ha, hb, hc⟩
  · exact .inl (by omega)
  · exact .inr ⟨b, o, ha, hb, fun i hi => hc i (by omega)⟩
theorem vltD {w : World} {b : Nat} {x y z : Int} (h : VecAt w b x y z) : b < w.heap.size := World.block_lt_of_cell? w _ h.1

set_option maxHeartbeats 1000000 in
set_option maxRecDepth 100000 in
theorem isAmong_any (L : List D3) (n : Nat) (x y z : Int) (a : Option Addr) (c : Nat) (w : World) (hn : n ≤ 1048576) (hS : Dirs w a L n) :
    Calls Tryz.prog 51 #[.agg #[.int .i64 x, .int .i64 y, .int .i64 z], .slice a n c] w fun e w' => e = .returned (.bool (amongB L (x, y, z) n)) ∧ Below w.heap.size w w' := by
  rcases hS with rfl | ⟨b, o, rfl, hb, hc⟩
  · go_enter Tryz.func51, Tryz.ntmps51
    go_wp2_with fail
    refine wp_loop_rounds 1 ?_
    rw [rounds_succ]
    go_wp2_with fail
    go_ret
    exact ⟨rfl, below1 _ _⟩
  · have HC := hide hc
    clear hc
    have V0 := hide (vecAt_new w x y z 54)
    have B0 := hide (below1 w (.cells #[.int .i64 x, .int .i64 y, .int .i64 z] 54))
    go_enter Tryz.func51, Tryz.ntmps51
    go_wp2_with fail
    go_loopw [9] (fun i wr => ∃ k : Nat, k ≤ n ∧ i = .int .i64 k ∧ Hid (asideTo L (x, y, z) k) ∧ Hid (Below w.heap.size w wr) ∧ Hid (VecAt wr w.heap.size x y z)) (fun i _ => n - (intOf i).toNat)
    case atStart => exact ⟨0, by omega, rfl, hide (fun j hj => absurd hj (Nat.not_lt_zero _)), B0, V0⟩
    case round =>
      obtain ⟨k, hk, rfl, HF, HB, HV⟩ := hrel
      by_cases hkn : k < n
      · obtain ⟨⟨s2, s3, s4⟩, hs⟩ : ∃ s, vA L k = s := ⟨_, rfl⟩
        have hst := ((unhide HC) k hkn).kept hb (unhide HB)
        rw [hs] at hst
        obtain ⟨c0, c1, c2⟩ := hst
        have HS := hide hs
        clear hs
        have V1 := hide (VecAt.alloc (unhide HV) (vltD (unhide HV)) (.cells #[.int .i64 s2, .int .i64 s3, .int .i64 s4] 54))
        have B1 := hide ((unhide HB).alloc (unhide HB).size (.cells #[.int .i64 s2, .int .i64 s3, .int .i64 s4] 54))
        obtain ⟨v0, v1, v2⟩ := unhide V1
        go_wp2_with fail
        refine (sameWay_any x y z s2 s3 s4 _).mono ?_
        rintro e w2 ⟨rfl, hx⟩
        have HV2 := hide ((unhide V1).kept (vltD (unhide V1)) hx)
        have HB2 := hide (below_call (unhide B1) hx)
        clear hx c0 c1 c2 v0 v1 v2 V1 B1 HB HV
        have HR : Hid (sameD (x, y, z) (vA L k) = sameB x y z s2 s3 s4) := hide (by rw [unhide HS]; rfl)
        cases hq : sameB x y z s2 s3 s4
        · rw [hq] at HR
          go_wp2_with fail
          go_roundw
          case rel => exact ⟨k + 1, by omega, by go_num, hide (aside_step (unhide HF) (unhide HR)), HB2, HV2⟩
          case measure => simp [intOf]; omega
        · rw [hq] at HR
          go_wp2_with fail
          go_ret
          exact ⟨by rw [among_yes hkn (unhide HR)]; rfl, unhide HB2⟩
      · have hkn' : k = n := by omega
        subst hkn'
        go_wp2_with fail
        go_ret
        exact ⟨by rw [among_no (unhide HF)]; rfl, unhide HB⟩

set_option maxHeartbeats 2000000 in
set_option maxRecDepth 100000 in
theorem spotsRight_any (L : List D3) (a : Option Addr) (c : Nat) (w : World) (hn : L.length ≤ 1048576) (hcap : L.length ≤ c) (hc9 : c ≤ 9223372036854775807) (hS : Dirs w a L L.length) :
    Calls Tryz.prog 26 #[.slice a L.length c] w fun e w' => e = .returned (.bool (spotsB L)) ∧ Below w.heap.size w w' := by
  obtain ⟨n, hnl⟩ : ∃ n, L.length = n := ⟨_, rfl⟩
  rw [hnl] at hn hcap hS ⊢
  have HL := hide hnl
  clear hnl
  by_cases h12 : 6 < n
  · have h12' : (6 : Int) < (n : Int) := by omega
    have HO : Hid (spotsB L = false) := hide (spots_long (by rw [unhide HL]; exact h12))
    clear hS
    go_enter Tryz.func26, Tryz.ntmps26
    go_wp2
    go_ret
    exact ⟨by rw [unhide HO]; rfl, Below.refl _ _⟩
  have h12' : ¬ (6 : Int) < (n : Int) := by omega
  rcases hS with rfl | ⟨b, o, rfl, hb, hc⟩
  · have HO : Hid (spotsB L = true) := hide (spots_yes (by rw [unhide HL]; omega) (by rw [unhide HL]; intro j hj; omega))
    go_enter Tryz.func26, Tryz.ntmps26
    go_wp2_with fail
    refine wp_loop_rounds 1 ?_
    rw [rounds_succ]
    go_wp2_with fail
    go_ret
    exact ⟨by rw [unhide HO]; rfl, Below.refl _ _⟩
  have HC := hide hc
  have HS : Hid (Dirs w (some ⟨b, o, none⟩) L n) := hide (.inr ⟨b, o, rfl, hb, hc⟩)
  clear hc
  go_enter Tryz.func26, Tryz.ntmps26
  go_wp2_with fail
  go_loopw [10] (fun i wr => ∃ k : Nat, k ≤ n ∧ i = .int .i64 k ∧ Hid (okVTo L k) ∧ Hid (Below w.heap.size w wr)) (fun i _ => n - (intOf i).toNat)
  case atStart => exact ⟨0, by omega, rfl, hide (fun j hj => absurd hj (Nat.not_lt_zero _)), hide (Below.refl _ _)⟩
  case round =>
    obtain ⟨k, hk, rfl, HF, HB⟩ := hrel
    by_cases hkn : k < n
    · obtain ⟨⟨s2, s3, s4⟩, hs⟩ : ∃ s, vA L k = s := ⟨_, rfl⟩
      have hst := ((unhide HC) k hkn).kept hb (unhide HB)
      rw [hs] at hst
      obtain ⟨c0, c1, c2⟩ := hst
      have HT := hide hs
      clear hs
      have B1 := hide ((unhide HB).alloc (unhide HB).size (.cells #[.int .i64 s2, .int .i64 s3, .int .i64 s4] 54))
      have N1 := hide (vecAt_new wr s2 s3 s4 54)
      go_wp2_with fail
      clear c0 c1 c2
      have hb1 := unhide B1
      have hn1 := unhide N1
      generalize hwe : wr.alloc (.cells #[.int .i64 s2, .int .i64 s3, .int .i64 s4] 54) = W1 at hb1 hn1 ⊢
      have HB1 := hide hb1
      clear hwe hb1 B1 N1
      obtain ⟨c0, c1, c2⟩ := hn1
      have r0 := cell_regrown c0
      have r1 := cell_regrown c1
      have r2 := cell_regrown c2
      clear c0 c1 c2
      have HO : Hid (okV L k = (wideB s2 s3 s4 && !amongB L (s2, s3, s4) k)) := hide (by unfold okV wideD; rw [unhide HT])
      have cW := hide (fun W => isWide_any s2 s3 s4 W)
      have cA := hide (fun (W : World) (hW : Dirs W (some ⟨b, o, none⟩) L k) => isAmong_any L k s2 s3 s4 (some ⟨b, o, none⟩) c W (by omega) hW)
      have HSk := hide (((unhide HS).less (Nat.le_of_lt hkn)).kept (unhide HB1))
      have hkc : (k : Int) ≤ (c : Int) := by omega
      cases hwd : wideB s2 s3 s4
      · rw [hwd] at HO cW
        have HO' : Hid (okV L k = false) := HO
        refine wp_region_quiet_below (by kernel_rfl) (by kernel_rfl) ?_
        repeat (go_big_quiet_step (first | (with_reducible exact Calls.regrown_of (unhide cW _))))
        refine wpQuiet_nil ?_
        intro _ hw'
        obtain ⟨⟨dq, osq⟩, hw''⟩ := hw'
        subst hw''
        have hx := below_call (unhide HB1) (below_regrown W1 dq osq)
        generalize grow (redrawn W1 dq) osq = W2 at hx ⊢
        go_wp2_with fail
        go_ret
        exact ⟨by rw [spots_no (by rw [unhide HL]; exact hkn) (unhide HO')]; rfl, hx⟩
      · rw [hwd, Bool.true_and] at HO
        rw [hwd] at cW
        generalize amongB L (s2, s3, s4) k = am at *
        refine wp_region_quiet_below (by kernel_rfl) (by kernel_rfl) ?_
        repeat (go_big_quiet_step (first | (with_reducible exact Calls.regrown_of (unhide cW _)) | (with_reducible exact Calls.regrown_of (unhide cA _ ((unhide HSk).kept (below_regrown _ _ _))))))
        refine wpQuiet_nil ?_
        intro _ hw'
        obtain ⟨⟨dq, osq⟩, hw''⟩ := hw'
        subst hw''
        have hx := below_call (unhide HB1) (below_regrown W1 dq osq)
        generalize grow (redrawn W1 dq) osq = W2 at hx ⊢
        have HB2 := hide hx
        clear hx HB1 HB cW cA HSk r0 r1 r2
        cases am
        · have HO' : Hid (okV L k = true) := HO
          go_wp2_with fail
          go_roundw
          case rel => exact ⟨k + 1, by omega, by go_num, hide (okV_step (unhide HF) (unhide HO')), HB2⟩
          case measure => simp [intOf]; omega
        · have HO' : Hid (okV L k = false) := HO
          go_wp2_with fail
          go_ret
          exact ⟨by rw [spots_no (by rw [unhide HL]; exact hkn) (unhide HO')]; rfl, unhide HB2⟩
    · have hkn' : k = n := by omega
      have HO : Hid (spotsB L = true) := hide (spots_yes (by rw [unhide HL]; omega) (by rw [unhide HL, ← hkn']; exact unhide HF))
      go_wp2_with fail
      go_ret
      exact ⟨by rw [unhide HO]; rfl, unhide HB⟩
end Go.Proofs.YtjdehbpgdplolaaGreatDoor

namespace Go.Proofs.YtjdehbpgdplolaaGreatDoor
open Go.RowKit Go.Sort
set_option linter.unusedVariables false

theorem same_of_right {a1 a2 a3 b1 b2 b3 : Int} (ha : rightB a1 a2 a3 = true) (hb : rightB b1 b2 b3 = true) :
    (eqB (crW a2 a3 b2 b3) (crW a3 a1 b3 b1) (crW a1 a2 b1 b2) 0 0 0 && decide (0 < dotW a1 a2 a3 b1 b2 b3)) = sameB a1 a2 a3 b1 b2 b3 := by
  unfold sameB
  rw [ha, hb]
  rfl
/-- the specification's own order: the earlier one first -/
theorem l02Same_right (p q : D3) (w : World) (hp : rightB p.1 p.2.1 p.2.2 = true) (hq : rightB q.1 q.2.1 q.2.2 = true) :
    Calls Tryz.prog 40 #[.agg #[.int .i64 p.1, .int .i64 p.2.1, .int .i64 p.2.2], .agg #[.int .i64 q.1, .int .i64 q.2.1, .int .i64 q.2.2]] w fun e w' => e = .returned (.bool (sameD p q)) ∧ Below w.heap.size w w' := by
  refine (l02Same_any _ _ _ _ _ _ w).mono fun e w' h => ?_
  rw [same_of_right hp hq] at h
  exact h

set_option maxHeartbeats 4000000 in
set_option maxRecDepth 100000 in
theorem specSpotsRight_any (L : List D3) (a : Option Addr) (c : Nat) (w : World) (hn : L.length ≤ 1048576) (hS : Dirs w a L L.length) :
    Calls Tryz.prog 20 #[.slice a L.length c] w fun e w' => e = .returned (.bool (spotsB L)) ∧ Below w.heap.size w w' := by
  obtain ⟨n, hnl⟩ : ∃ n, L.length = n := ⟨_, rfl⟩
  rw [hnl] at hn hS ⊢
  have HL := hide hnl
  clear hnl
  by_cases h12 : 6 < n
  · have h12' : (6 : Int) < (n : Int) := by omega
    have HO : Hid (spotsB L = false) := hide (spots_long (by rw [unhide HL]; exact h12))
    clear hS
    go_enter Tryz.func20, Tryz.ntmps20
    go_wp2
    go_ret
    exact ⟨by rw [unhide HO]; rfl, Below.refl _ _⟩
  have h12' : ¬ (6 : Int) < (n : Int) := by omega
  rcases hS with rfl | ⟨b, o, rfl, hb, hc⟩
  · have HO : Hid (spotsB L = true) := hide (spots_yes (by rw [unhide HL]; omega) (by rw [unhide HL]; intro j hj; omega))
    go_enter Tryz.func20, Tryz.ntmps20
    go_wp2_with fail
    refine wp_loop_rounds 1 ?_
    rw [rounds_succ]
    go_wp2_with fail
    go_ret
    exact ⟨by rw [unhide HO]; rfl, Below.refl _ _⟩
  have HC := hide hc
  clear hc
  go_enter Tryz.func20, Tryz.ntmps20
  go_wp2_with fail
  go_loopw [3] (fun i wr => ∃ k : Nat, k ≤ n ∧ i = .int .i64 k ∧ Hid (okVTo L k) ∧ Hid (Below w.heap.size w wr)) (fun i _ => n - (intOf i).toNat)
  case atStart => exact ⟨0, by omega, rfl, hide (fun j hj => absurd hj (Nat.not_lt_zero _)), hide (Below.refl _ _)⟩
  case round =>
    obtain ⟨k, hk, rfl, HF, HB⟩ := hrel
    by_cases hkn : k < n
    · have hkn2 : (k : Int) < (n : Int) := by omega
      obtain ⟨⟨s2, s3, s4⟩, hs⟩ : ∃ s, vA L k = s := ⟨_, rfl⟩
      have hst := ((unhide HC) k hkn).kept hb (unhide HB)
      rw [hs] at hst
      obtain ⟨c0, c1, c2⟩ := hst
      have HT := hide hs
      clear hs
      have HO : Hid (okV L k = (wideB s2 s3 s4 && !amongB L (s2, s3, s4) k)) := hide (by unfold okV wideD; rw [unhide HT])
      go_wp2_with fail
      refine (l04Wide_any s2 s3 s4 _).mono ?_
      rintro e W2 ⟨rfl, hx⟩
      have HB2 := hide (below_call (unhide HB) hx)
      clear hx c0 c1 c2 HB
      cases hwd : wideB s2 s3 s4
      · rw [hwd] at HO
        have HO' : Hid (okV L k = false) := HO
        go_wp2_with fail
        go_ret
        exact ⟨by rw [spots_no (by rw [unhide HL]; exact hkn) (unhide HO')]; rfl, unhide HB2⟩
      rw [hwd, Bool.true_and] at HO
      have HWD := hide hwd
      clear hwd
      go_wp2_with fail
      go_loopw [4] (fun i wr => ∃ j : Nat, j ≤ k ∧ i = .int .i64 j ∧ Hid (asideTo L (s2, s3, s4) j) ∧ Hid (Below w.heap.size w wr)) (fun i _ => k - (intOf i).toNat)
      case atStart => exact ⟨0, by omega, rfl, hide (fun j hj => absurd hj (Nat.not_lt_zero _)), HB2⟩
      case round =>
        clear HB2
        obtain ⟨j, hj, rfl, HN, HB3⟩ := hrel
        by_cases hjk : j < k
        · have hjk2 : (j : Int) < (k : Int) := by omega
          have hjn2 : (j : Int) < (n : Int) := by omega
          have HWJ := hide (okV_wide (unhide HF j hjk))
          obtain ⟨⟨t2, t3, t4⟩, ht⟩ : ∃ s, vA L j = s := ⟨_, rfl⟩
          have hst := ((unhide HC) k hkn).kept hb (unhide HB3)
          have htt := ((unhide HC) j (by omega)).kept hb (unhide HB3)
          rw [unhide HT] at hst
          rw [ht] at htt HWJ
          obtain ⟨c0, c1, c2⟩ := hst
          obtain ⟨d0, d1, d2⟩ := htt
          have HTJ := hide ht
          clear ht
          have cS : Hid (∀ W : World, Calls Tryz.prog 40 #[.agg #[.int .i64 t2, .int .i64 t3, .int .i64 t4], .agg #[.int .i64 s2, .int .i64 s3, .int .i64 s4]] W fun e w' => e = .returned (.bool (sameD (s2, s3, s4) (t2, t3, t4))) ∧ Below W.heap.size W w') := hide (fun W => by
            rw [sameD_turned (p := (s2, s3, s4)) (q := (t2, t3, t4)) (unhide HWD) (unhide HWJ)]
            exact l02Same_right (t2, t3, t4) (s2, s3, s4) W (wide_iff (unhide HWJ)).1 (wide_iff (unhide HWD)).1)
          have HSM : Hid (sameD (s2, s3, s4) (vA L j) = sameD (s2, s3, s4) (t2, t3, t4)) := hide (by rw [unhide HTJ])
          generalize sameD (s2, s3, s4) (t2, t3, t4) = sm at *
          have r0 := cell_regrown c0
          have r1 := cell_regrown c1
          have r2 := cell_regrown c2
          have q0 := cell_regrown d0
          have q1 := cell_regrown d1
          have q2 := cell_regrown d2
          clear c0 c1 c2 d0 d1 d2
          go_wp2_with fail
          refine wp_region_quiet_below (by kernel_rfl) (by kernel_rfl) ?_
          repeat (go_big_quiet_step (first | (with_reducible exact Calls.regrown_of (unhide cS _))))
          refine wpQuiet_nil ?_
          intro _ hw'
          obtain ⟨⟨dq, osq⟩, hw''⟩ := hw'
          subst hw''
          have hx := below_call (unhide HB3) (below_regrown wr dq osq)
          generalize grow (redrawn wr dq) osq = W4 at hx ⊢
          have HB4 := hide hx
          clear hx HB3 cS r0 r1 r2 q0 q1 q2
          cases sm
          · go_wp2_with fail
            go_roundw
            case rel => exact ⟨j + 1, by omega, by go_num, hide (aside_step (unhide HN) (unhide HSM)), HB4⟩
            case measure => simp [intOf]; omega
          · have HO' : Hid (okV L k = false) := hide (by rw [unhide HO, among_yes hjk (unhide HSM)]; rfl)
            go_wp2_with fail
            go_ret
            exact ⟨by rw [spots_no (by rw [unhide HL]; exact hkn) (unhide HO')]; rfl, unhide HB4⟩
        · have hjk' : j = k := by omega
          subst hjk'
          have HO' : Hid (okV L j = true) := hide (by rw [unhide HO, among_no (unhide HN)]; rfl)
          go_wp2_with fail
          go_roundw
          case rel => exact ⟨j + 1, by omega, by go_num, hide (okV_step (unhide HF) (unhide HO')), HB3⟩
          case measure => simp [intOf]; omega
    · have hkn' : k = n := by omega
      have HO : Hid (spotsB L = true) := hide (spots_yes (by rw [unhide HL]; omega) (by rw [unhide HL, ← hkn']; exact unhide HF))
      go_wp2_with fail
      go_ret
      exact ⟨by rw [unhide HO]; rfl, unhide HB⟩
end Go.Proofs.YtjdehbpgdplolaaGreatDoor
