/- Sights: as far as, on the side of, fits behind: the program's. -/
import Derived.Test.YtjdehbpgdplolaaDoorNaM
import Derived.Test.YtjdehbpgdplolaaDoorVecJ
import Derived.Test.YtjdehbpgdplolaaDoorFrC
namespace Go.Proofs.YtjdehbpgdplolaaDoor
open Go.RowKit Go.Sort
set_option linter.unusedVariables false

def sgL (s : Sg) : List Value := [.int .i64 s.1.1, .int .i64 s.1.2.1, .int .i64 s.1.2.2, .int .i64 s.2.1, .int .i64 s.2.2.1, .int .i64 s.2.2.2.1, .int .i64 s.2.2.2.2]
def sgV (s : Sg) : Value := .agg #[.int .i64 s.1.1, .int .i64 s.1.2.1, .int .i64 s.1.2.2, .int .i64 s.2.1, .int .i64 s.2.2.1, .int .i64 s.2.2.2.1, .int .i64 s.2.2.2.2]
def SgAt (w : World) (b o : Nat) (s : Sg) : Prop := w.cell? ⟨b, o, none⟩ = some (.int .i64 s.1.1) ∧ w.cell? ⟨b, o + 1, none⟩ = some (.int .i64 s.1.2.1) ∧ w.cell? ⟨b, o + 2, none⟩ = some (.int .i64 s.1.2.2) ∧ w.cell? ⟨b, o + 3, none⟩ = some (.int .i64 s.2.1) ∧ w.cell? ⟨b, o + 4, none⟩ = some (.int .i64 s.2.2.1) ∧ w.cell? ⟨b, o + 5, none⟩ = some (.int .i64 s.2.2.2.1) ∧ w.cell? ⟨b, o + 6, none⟩ = some (.int .i64 s.2.2.2.2)
theorem SgAt.lt {w : World} {b o : Nat} {s : Sg} (h : SgAt w b o s) : b < w.heap.size := World.block_lt_of_cell? w _ h.1
theorem SgAt.kept {w w' : World} {b o : Nat} {s : Sg} (h : SgAt w b o s) (hB : Below w.heap.size w w') : SgAt w' b o s := by
  have hb := h.lt
  obtain ⟨h0, h1, h2, h3, h4, h5, h6⟩ := h
  exact ⟨by rw [hB.cell (p := ⟨b, o, none⟩) hb]; exact h0, by rw [hB.cell (p := ⟨b, o + 1, none⟩) hb]; exact h1, by rw [hB.cell (p := ⟨b, o + 2, none⟩) hb]; exact h2, by rw [hB.cell (p := ⟨b, o + 3, none⟩) hb]; exact h3, by rw [hB.cell (p := ⟨b, o + 4, none⟩) hb]; exact h4, by rw [hB.cell (p := ⟨b, o + 5, none⟩) hb]; exact h5, by rw [hB.cell (p := ⟨b, o + 6, none⟩) hb]; exact h6⟩
theorem sgAt_new (w : World) (s : Sg) (t : TypeId) : SgAt (w.alloc (.cells #[.int .i64 s.1.1, .int .i64 s.1.2.1, .int .i64 s.1.2.2, .int .i64 s.2.1, .int .i64 s.2.2.1, .int .i64 s.2.2.2.1, .int .i64 s.2.2.2.2] t)) w.heap.size 0 s := by
  refine ⟨?_, ?_, ?_, ?_, ?_, ?_, ?_⟩ <;> simp
/-- the first n sights of A lie at a -/
def Sights (w : World) (a : Option Addr) (A : List Sg) (n : Nat) : Prop := n = 0 ∨ ∃ b o, a = some ⟨b, o, none⟩ ∧ b < w.heap.size ∧ ∀ i, i < n → SgAt w b (o + i * 7) (sgA A i)
theorem Sights.kept {w w' : World} {a : Option Addr} {A : List Sg} {n : Nat} (h : Sights w a A n) (hB : Below w.heap.size w w') : Sights w' a A n := by
  rcases h with h | ⟨b, o, ha, hb, hc⟩
  · exact .inl h
  · exact .inr ⟨b, o, ha, Nat.lt_of_lt_of_le hb hB.size, fun i hi => (hc i hi).kept hB⟩
theorem Sights.less {w : World} {a : Option Addr} {A : List Sg} {n m : Nat} (h : Sights w a A n) (hm : m ≤ n) : Sights w a A m := by
  rcases h with h | ⟨b, o, ha, hb, hc⟩
  · exact .inl (by omega)
  · exact .inr ⟨b, o, ha, hb, fun i hi => hc i (by omega)⟩
set_option maxHeartbeats 1000000 in
set_option maxRecDepth 100000 in
theorem isAsFar_any (s t : Sg) (w : World) :
    Calls Tryd.prog 67 #[sgV s, sgV t] w fun e w' => e = .returned (.bool (farB s t)) ∧ Below w.heap.size w w' := by
  obtain ⟨⟨a1, a2, a3⟩, a4, a5, a6, a7⟩ := s
  obtain ⟨⟨b1, b2, b3⟩, b4, b5, b6, b7⟩ := t
  unfold sgV farB
  simp only
  have HB := hide (below2 w (.cells #[.int .i64 a1, .int .i64 a2, .int .i64 a3, .int .i64 a4, .int .i64 a5, .int .i64 a6, .int .i64 a7] 97) (.cells #[.int .i64 b1, .int .i64 b2, .int .i64 b3, .int .i64 b4, .int .i64 b5, .int .i64 b6, .int .i64 b7] 97))
  go_enter Tryd.func67, Tryd.ntmps67
  go_wp2_with fail
  refine (cosCmp_any b1 b2 b3 a1 a2 a3 b5 b6 b7 a5 a6 a7 _).mono ?_
  rintro e w1 ⟨rfl, hx⟩
  have HB1 := hide (below_call (unhide HB) hx)
  clear hx
  go_wp2_with fail
  go_ret
  exact ⟨rfl, unhide HB1⟩
set_option maxHeartbeats 1000000 in
set_option maxRecDepth 100000 in
theorem isOnSide_any (s f g : Sg) (w : World) :
    Calls Tryd.prog 68 #[sgV s, sgV f, sgV g] w fun e w' => e = .returned (.bool (sideB s f g)) ∧ Below w.heap.size w w' := by
  have A0 := ((sgAt_new w s 97).kept (below1 _ (.cells #[.int .i64 f.1.1, .int .i64 f.1.2.1, .int .i64 f.1.2.2, .int .i64 f.2.1, .int .i64 f.2.2.1, .int .i64 f.2.2.2.1, .int .i64 f.2.2.2.2] 97))).kept (below1 _ (.cells #[.int .i64 g.1.1, .int .i64 g.1.2.1, .int .i64 g.1.2.2, .int .i64 g.2.1, .int .i64 g.2.2.1, .int .i64 g.2.2.2.1, .int .i64 g.2.2.2.2] 97))
  have F0 := (sgAt_new (w.alloc (.cells #[.int .i64 s.1.1, .int .i64 s.1.2.1, .int .i64 s.1.2.2, .int .i64 s.2.1, .int .i64 s.2.2.1, .int .i64 s.2.2.2.1, .int .i64 s.2.2.2.2] 97)) f 97).kept (below1 _ (.cells #[.int .i64 g.1.1, .int .i64 g.1.2.1, .int .i64 g.1.2.2, .int .i64 g.2.1, .int .i64 g.2.2.1, .int .i64 g.2.2.2.1, .int .i64 g.2.2.2.2] 97))
  have G0 := sgAt_new ((w.alloc (.cells #[.int .i64 s.1.1, .int .i64 s.1.2.1, .int .i64 s.1.2.2, .int .i64 s.2.1, .int .i64 s.2.2.1, .int .i64 s.2.2.2.1, .int .i64 s.2.2.2.2] 97)).alloc (.cells #[.int .i64 f.1.1, .int .i64 f.1.2.1, .int .i64 f.1.2.2, .int .i64 f.2.1, .int .i64 f.2.2.1, .int .i64 f.2.2.2.1, .int .i64 f.2.2.2.2] 97)) g 97
  have B0 := below3 w (.cells #[.int .i64 s.1.1, .int .i64 s.1.2.1, .int .i64 s.1.2.2, .int .i64 s.2.1, .int .i64 s.2.2.1, .int .i64 s.2.2.2.1, .int .i64 s.2.2.2.2] 97) (.cells #[.int .i64 f.1.1, .int .i64 f.1.2.1, .int .i64 f.1.2.2, .int .i64 f.2.1, .int .i64 f.2.2.1, .int .i64 f.2.2.2.1, .int .i64 f.2.2.2.2] 97) (.cells #[.int .i64 g.1.1, .int .i64 g.1.2.1, .int .i64 g.1.2.2, .int .i64 g.2.1, .int .i64 g.2.2.1, .int .i64 g.2.2.2.1, .int .i64 g.2.2.2.2] 97)
  have e1 : (w.alloc (.cells #[.int .i64 s.1.1, .int .i64 s.1.2.1, .int .i64 s.1.2.2, .int .i64 s.2.1, .int .i64 s.2.2.1, .int .i64 s.2.2.2.1, .int .i64 s.2.2.2.2] 97)).heap.size = w.heap.size + 1 := by simp
  have e2 : ((w.alloc (.cells #[.int .i64 s.1.1, .int .i64 s.1.2.1, .int .i64 s.1.2.2, .int .i64 s.2.1, .int .i64 s.2.2.1, .int .i64 s.2.2.2.1, .int .i64 s.2.2.2.2] 97)).alloc (.cells #[.int .i64 f.1.1, .int .i64 f.1.2.1, .int .i64 f.1.2.2, .int .i64 f.2.1, .int .i64 f.2.2.1, .int .i64 f.2.2.2.1, .int .i64 f.2.2.2.2] 97)).heap.size = w.heap.size + 1 + 1 := by simp
  rw [e1] at F0
  rw [e2] at G0
  clear e1 e2
  obtain ⟨⟨a1, a2, a3⟩, a4, a5, a6, a7⟩ := s
  obtain ⟨⟨b1, b2, b3⟩, b4, b5, b6, b7⟩ := f
  obtain ⟨⟨c1, c2, c3⟩, c4, c5, c6, c7⟩ := g
  unfold sgV sideB detD
  simp only at A0 F0 G0 B0 ⊢
  have cD := hide (fun W => det_any b1 b2 b3 c1 c2 c3 a1 a2 a3 W)
  have cE := hide (fun W => det_any b5 b6 b7 c5 c6 c7 a5 a6 a7 W)
  generalize detI b1 b2 b3 c1 c2 c3 a1 a2 a3 = d1 at *
  generalize detI b5 b6 b7 c5 c6 c7 a5 a6 a7 = d2 at *
  have cO := hide (fun W => order_any d1 0 W)
  have cP := hide (fun W => order_any d2 0 W)
  generalize ordI d1 0 = o1 at *
  generalize ordI d2 0 = o2 at *
  go_enter Tryd.func68, Tryd.ntmps68
  go_wp2_with fail
  generalize ((w.alloc (.cells #[.int .i64 a1, .int .i64 a2, .int .i64 a3, .int .i64 a4, .int .i64 a5, .int .i64 a6, .int .i64 a7] 97)).alloc (.cells #[.int .i64 b1, .int .i64 b2, .int .i64 b3, .int .i64 b4, .int .i64 b5, .int .i64 b6, .int .i64 b7] 97)).alloc (.cells #[.int .i64 c1, .int .i64 c2, .int .i64 c3, .int .i64 c4, .int .i64 c5, .int .i64 c6, .int .i64 c7] 97) = W0 at A0 F0 G0 B0 ⊢
  refine (unhide cD _).mono ?_
  rintro e w1 ⟨rfl, hx⟩
  have A1 := A0.kept hx
  have F1 := F0.kept hx
  have G1 := G0.kept hx
  have B1 := below_call B0 hx
  clear hx A0 F0 G0 B0
  go_wp2_with fail
  refine (unhide cO _).mono ?_
  rintro e w2 ⟨rfl, rfl⟩
  obtain ⟨x0, x1, x2, x3, x4, x5, x6⟩ := A1
  obtain ⟨y0, y1, y2, y3, y4, y5, y6⟩ := F1
  obtain ⟨z0, z1, z2, z3, z4, z5, z6⟩ := G1
  simp only [Nat.zero_add] at x0 x1 x2 x3 x4 x5 x6 y0 y1 y2 y3 y4 y5 y6 z0 z1 z2 z3 z4 z5 z6
  go_wp2_with fail
  refine (unhide cE _).mono ?_
  rintro e w3 ⟨rfl, hx⟩
  have B2 := below_call B1 hx
  clear hx x0 x1 x2 x3 x4 x5 x6 y0 y1 y2 y3 y4 y5 y6 z0 z1 z2 z3 z4 z5 z6 B1
  go_wp2_with fail
  refine (unhide cP _).mono ?_
  rintro e w4 ⟨rfl, rfl⟩
  go_wp2_with fail
  go_ret
  exact ⟨by first | rfl | simp [go_sem], B2⟩
set_option maxHeartbeats 2000000 in
set_option maxRecDepth 100000 in
theorem fitsBehind_any (A : List Sg) (n : Nat) (s : Sg) (a : Option Addr) (c : Nat) (w : World) (hn : n ≤ 1048576) (hcap : n ≤ c) (hc9 : c ≤ 9223372036854775807) (hS : Sights w a A n) :
    Calls Tryd.prog 57 #[sgV s, .slice a n c] w fun e w' => e = .returned (.bool (fitsB A s n)) ∧ Below w.heap.size w w' := by
  have cF : Hid (∀ (t : Sg) (W : World), Calls Tryd.prog 67 #[sgV s, sgV t] W fun e w' => e = .returned (.bool (farB s t)) ∧ Below W.heap.size W w') := hide (fun t W => isAsFar_any s t W)
  have cS : Hid (∀ (f g : Sg) (W : World), Calls Tryd.prog 68 #[sgV s, sgV f, sgV g] W fun e w' => e = .returned (.bool (sideB s f g)) ∧ Below W.heap.size W w') := hide (fun f g W => isOnSide_any s f g W)
  have V0 := hide (sgAt_new w s 97)
  have B0 := hide (below1 w (.cells #[.int .i64 s.1.1, .int .i64 s.1.2.1, .int .i64 s.1.2.2, .int .i64 s.2.1, .int .i64 s.2.2.1, .int .i64 s.2.2.2.1, .int .i64 s.2.2.2.2] 97))
  obtain ⟨⟨a1, a2, a3⟩, a4, a5, a6, a7⟩ := s
  simp only at V0 B0
  have cF' : Hid (∀ (t : Sg) (W : World), Calls Tryd.prog 67 #[.agg #[.int .i64 a1, .int .i64 a2, .int .i64 a3, .int .i64 a4, .int .i64 a5, .int .i64 a6, .int .i64 a7], sgV t] W fun e w' => e = .returned (.bool (farB ((a1, a2, a3), a4, a5, a6, a7) t)) ∧ Below W.heap.size W w') := cF
  have cS' : Hid (∀ (f g : Sg) (W : World), Calls Tryd.prog 68 #[.agg #[.int .i64 a1, .int .i64 a2, .int .i64 a3, .int .i64 a4, .int .i64 a5, .int .i64 a6, .int .i64 a7], sgV f, sgV g] W fun e w' => e = .returned (.bool (sideB ((a1, a2, a3), a4, a5, a6, a7) f g)) ∧ Below W.heap.size W w') := cS
  clear cF cS
  show Calls Tryd.prog 57 #[.agg #[.int .i64 a1, .int .i64 a2, .int .i64 a3, .int .i64 a4, .int .i64 a5, .int .i64 a6, .int .i64 a7], .slice a n c] w _
  rcases hS with rfl | ⟨b, o, rfl, hb, hc⟩
  · go_enter Tryd.func57, Tryd.ntmps57
    go_wp2_with fail
    refine wp_loop_rounds 1 ?_
    rw [rounds_succ]
    go_wp2_with fail
    go_ret
    exact ⟨rfl, unhide B0⟩
  have HC := hide hc
  clear hc
  obtain ⟨sg, hsg⟩ : ∃ sg : Sg, sg = ((a1, a2, a3), a4, a5, a6, a7) := ⟨_, rfl⟩
  rw [← hsg] at cF' cS' V0
  rw [← hsg]
  have HSG := hide hsg
  clear hsg
  go_enter Tryd.func57, Tryd.ntmps57
  go_wp2_with fail
  go_loopw [11] (fun i wr => ∃ k : Nat, k ≤ n ∧ i = .int .i64 k ∧ Hid (∀ j, j < k → okWith A sg j = true) ∧ Hid (Below w.heap.size w wr) ∧ Hid (SgAt wr w.heap.size 0 sg)) (fun i _ => n - (intOf i).toNat)
  case atStart => exact ⟨0, by omega, rfl, hide (fun j hj => absurd hj (Nat.not_lt_zero _)), B0, V0⟩
  case round =>
    clear B0 V0
    obtain ⟨k, hk, rfl, HF, HB, HV⟩ := hrel
    by_cases hkn : k < n
    · have hkn2 : (k : Int) < (n : Int) := by omega
      obtain ⟨t, ht⟩ : ∃ t, sgA A k = t := ⟨_, rfl⟩
      have hst := ((unhide HC) k hkn).kept (unhide HB)
      rw [ht] at hst
      have HT := hide ht
      clear ht
      have cFt := hide (unhide cF' t)
      have cSt := hide (fun f W => unhide cS' f t W)
      have HFA : Hid (∀ b, farB sg t = b → farB sg (sgA A k) = b) := hide (fun b h => by rw [unhide HT]; exact h)
      have HID : Hid (sg.2.1 = a4) := hide (by rw [unhide HSG])
      have HTI : Hid ((sgA A k).2.1 = t.2.1) := hide (by rw [unhide HT])
      have Z := below1 wr (.cells #[.int .i64 t.1.1, .int .i64 t.1.2.1, .int .i64 t.1.2.2, .int .i64 t.2.1, .int .i64 t.2.2.1, .int .i64 t.2.2.2.1, .int .i64 t.2.2.2.2] 97)
      have T1 := hide (sgAt_new wr t 97)
      have HB1 := hide (below_call (unhide HB) Z)
      have HV1 := hide ((unhide HV).kept Z)
      clear Z HB HV
      obtain ⟨⟨b1, b2, b3⟩, b4, b5, b6, b7⟩ := t
      have cFt' : Hid (∀ (W : World), Calls Tryd.prog 67 #[.agg #[.int .i64 a1, .int .i64 a2, .int .i64 a3, .int .i64 a4, .int .i64 a5, .int .i64 a6, .int .i64 a7], .agg #[.int .i64 b1, .int .i64 b2, .int .i64 b3, .int .i64 b4, .int .i64 b5, .int .i64 b6, .int .i64 b7]] W fun e w' => e = .returned (.bool (farB sg ((b1, b2, b3), b4, b5, b6, b7))) ∧ Below W.heap.size W w') := cFt
      have cSt' : Hid (∀ (f : Sg) (W : World), Calls Tryd.prog 68 #[.agg #[.int .i64 a1, .int .i64 a2, .int .i64 a3, .int .i64 a4, .int .i64 a5, .int .i64 a6, .int .i64 a7], sgV f, .agg #[.int .i64 b1, .int .i64 b2, .int .i64 b3, .int .i64 b4, .int .i64 b5, .int .i64 b6, .int .i64 b7]] W fun e w' => e = .returned (.bool (sideB sg f ((b1, b2, b3), b4, b5, b6, b7))) ∧ Below W.heap.size W w') := cSt
      clear cFt cSt
      have HTI' : Hid ((sgA A k).2.1 = b4) := HTI
      clear HTI
      obtain ⟨c0, c1, c2, c3, c4, c5, c6⟩ := hst
      simp only at c0 c1 c2 c3 c4 c5 c6 T1 HB1 HV1
      obtain ⟨tg, htg⟩ : ∃ sg : Sg, sg = ((b1, b2, b3), b4, b5, b6, b7) := ⟨_, rfl⟩
      rw [← htg] at cFt' cSt' T1 HFA HT
      have HTG := hide htg
      clear htg
      obtain ⟨v0, v1, v2, v3, v4, v5, v6⟩ := unhide HV1
      obtain ⟨x0, x1, x2, x3, x4, x5, x6⟩ := unhide T1
      rw [unhide HSG] at v0 v1 v2 v3 v4 v5 v6
      rw [unhide HTG] at x0 x1 x2 x3 x4 x5 x6
      simp only [Nat.zero_add] at v0 v1 v2 v3 v4 v5 v6 x0 x1 x2 x3 x4 x5 x6
      by_cases hid : a4 = b4
      · subst hid
        have HNO := hide (fits_no (A := A) (s := sg) hkn (okWith_id (by rw [unhide HID, unhide HTI'])))
        go_wp2_with fail
        go_ret
        exact ⟨by rw [unhide HNO]; rfl, unhide HB1⟩
      have hid' : (a4 == b4) = false := by simp [hid]
      go_wp2_with fail
      clear c0 c1 c2 c3 c4 c5 c6 v0 v1 v2 v3 v4 v5 v6 x0 x1 x2 x3 x4 x5 x6
      generalize wr.alloc (.cells #[.int .i64 b1, .int .i64 b2, .int .i64 b3, .int .i64 b4, .int .i64 b5, .int .i64 b6, .int .i64 b7] 97) = W1 at T1 HB1 HV1 ⊢
      generalize wr.heap.size = tb at *
      refine (unhide cFt' _).mono ?_
      rintro e W2 ⟨rfl, hx⟩
      have T2 := hide ((unhide T1).kept hx)
      have HB2 := hide (below_call (unhide HB1) hx)
      have HV2 := hide ((unhide HV1).kept hx)
      clear hx T1 HB1 HV1
      cases hfar : farB sg tg
      · have HNO := hide (fits_no (A := A) (s := sg) hkn (okWith_far (unhide HFA _ hfar)))
        go_wp2_with fail
        go_ret
        exact ⟨by rw [unhide HNO]; rfl, unhide HB2⟩
      have HFT := hide (unhide HFA _ hfar)
      have hkc : (k : Int) ≤ (c : Int) := by omega
      clear hfar HFA cFt'
      go_wp2_with fail
      go_loopw [33] (fun i wr => ∃ j : Nat, j ≤ k ∧ i = .int .i64 j ∧ Hid (∀ l, l < j → sideB sg (sgA A l) tg = true) ∧ Hid (Below w.heap.size w wr) ∧ Hid (SgAt wr w.heap.size 0 sg) ∧ Hid (SgAt wr tb 0 tg)) (fun i _ => k - (intOf i).toNat)
      case atStart => exact ⟨0, by omega, rfl, hide (fun j hj => absurd hj (Nat.not_lt_zero _)), HB2, HV2, T2⟩
      case round =>
        clear HB2 HV2 T2
        obtain ⟨j, hj, rfl, HL, HB, HV, HT2⟩ := hrel
        by_cases hjk : j < k
        · have hjk2 : (j : Int) < (k : Int) := by omega
          obtain ⟨f, hf⟩ : ∃ t, sgA A j = t := ⟨_, rfl⟩
          have hst := ((unhide HC) j (by omega)).kept (unhide HB)
          rw [hf] at hst
          have HFE := hide hf
          clear hf
          have cSf := hide (unhide cSt' f)
          have Z := below1 wr (.cells #[.int .i64 f.1.1, .int .i64 f.1.2.1, .int .i64 f.1.2.2, .int .i64 f.2.1, .int .i64 f.2.2.1, .int .i64 f.2.2.2.1, .int .i64 f.2.2.2.2] 97)
          have F1 := sgAt_new wr f 97
          have HB1 := hide (below_call (unhide HB) Z)
          have HV1 := hide ((unhide HV).kept Z)
          have HT3 := hide ((unhide HT2).kept Z)
          clear Z HB HV HT2
          have HSB : Hid (sideB sg (sgA A j) tg = sideB sg f tg) := hide (by rw [unhide HFE])
          have HSC : Hid (sideB sg (sgA A j) (sgA A k) = sideB sg f tg) := hide (by rw [unhide HFE, unhide HT])
          have cSg : Hid (∀ (W : World), Calls Tryd.prog 68 #[.agg #[.int .i64 a1, .int .i64 a2, .int .i64 a3, .int .i64 a4, .int .i64 a5, .int .i64 a6, .int .i64 a7], sgV f, .agg #[.int .i64 b1, .int .i64 b2, .int .i64 b3, .int .i64 b4, .int .i64 b5, .int .i64 b6, .int .i64 b7]] W fun e w' => e = .returned (.bool (sideB sg f tg)) ∧ Below W.heap.size W w') := cSf
          clear cSf
          generalize sideB sg f tg = sb at *
          obtain ⟨⟨f1, f2, f3⟩, f4, f5, f6, f7⟩ := f
          have cSh : Hid (∀ (W : World), Calls Tryd.prog 68 #[.agg #[.int .i64 a1, .int .i64 a2, .int .i64 a3, .int .i64 a4, .int .i64 a5, .int .i64 a6, .int .i64 a7], .agg #[.int .i64 f1, .int .i64 f2, .int .i64 f3, .int .i64 f4, .int .i64 f5, .int .i64 f6, .int .i64 f7], .agg #[.int .i64 b1, .int .i64 b2, .int .i64 b3, .int .i64 b4, .int .i64 b5, .int .i64 b6, .int .i64 b7]] W fun e w' => e = .returned (.bool sb) ∧ Below W.heap.size W w') := cSg
          clear cSg
          obtain ⟨c0, c1, c2, c3, c4, c5, c6⟩ := hst
          simp only at c0 c1 c2 c3 c4 c5 c6 F1 HB1 HV1 HT3
          obtain ⟨v0, v1, v2, v3, v4, v5, v6⟩ := unhide HV1
          obtain ⟨x0, x1, x2, x3, x4, x5, x6⟩ := unhide HT3
          obtain ⟨y0, y1, y2, y3, y4, y5, y6⟩ := F1
          rw [unhide HSG] at v0 v1 v2 v3 v4 v5 v6
          rw [unhide HTG] at x0 x1 x2 x3 x4 x5 x6
          simp only [Nat.zero_add] at v0 v1 v2 v3 v4 v5 v6 x0 x1 x2 x3 x4 x5 x6 y0 y1 y2 y3 y4 y5 y6
          go_wp2_with fail
          clear c0 c1 c2 c3 c4 c5 c6 v0 v1 v2 v3 v4 v5 v6 x0 x1 x2 x3 x4 x5 x6 y0 y1 y2 y3 y4 y5 y6
          refine (unhide cSh _).mono ?_
          rintro e W4 ⟨rfl, hx⟩
          have HB4 := hide (below_call (unhide HB1) hx)
          have HV4 := hide ((unhide HV1).kept hx)
          have HT4 := hide ((unhide HT3).kept hx)
          clear hx HB1 HV1 HT3
          cases sb
          · have HNO := hide (fits_no (A := A) (s := sg) hkn (okWith_side hjk (unhide HSC)))
            go_wp2_with fail
            go_ret
            exact ⟨by rw [unhide HNO]; rfl, unhide HB4⟩
          · go_wp2_with fail
            go_roundw
            case rel => exact ⟨j + 1, by omega, by go_num, hide (fun l hl => by
              by_cases e : l = j
              · rw [e]; exact unhide HSB
              · exact unhide HL l (by omega)), HB4, HV4, HT4⟩
            case measure => simp [intOf]; omega
        · have hjk' : j = k := by omega
          subst hjk'
          have HOK : Hid (okWith A sg j = true) := hide (okWith_yes (by rw [unhide HID, unhide HTI']; exact hid) (unhide HFT) (fun l hl => by rw [unhide HT]; exact unhide HL l hl))
          go_wp2_with fail
          go_roundw
          case rel => exact ⟨j + 1, by omega, by go_num, hide (fun l hl => by
            by_cases e : l = j
            · rw [e]; exact unhide HOK
            · exact unhide HF l (by omega)), HB, HV⟩
          case measure => simp [intOf]; omega
    · have hkn' : k = n := by omega
      subst hkn'
      have HY := hide (fits_yes (A := A) (s := sg) (unhide HF))
      go_wp2_with fail
      go_ret
      exact ⟨by rw [unhide HY]; rfl, unhide HB⟩
end Go.Proofs.YtjdehbpgdplolaaDoor
