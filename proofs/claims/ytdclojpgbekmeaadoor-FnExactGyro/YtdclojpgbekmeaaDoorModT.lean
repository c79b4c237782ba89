/- A place made in the midst of a statement, for what Gyro answers. -/
import Derived.Test.YtdclojpgbekmeaaDoorModN
import Derived.Test.YtdclojpgbekmeaaDoorModS
namespace Go.Proofs.YtdclojpgbekmeaaDoor
open Go.RowKit Go.Sort
set_option linter.unusedVariables false
set_option linter.unusedSimpArgs false

def ResvT (w : World) (b : Nat) : Prop := TkO w b (.slice none 0 0) 0 0 0 0 0 0 0 0 0 ∧ FreeK w b
theorem resvT_new (w : World) (t : TypeId) : ResvT (w.alloc (.cells #[.slice none 0 0, .int .i64 0, .int .i64 0, .int .i64 0, .int .i64 0, .int .i64 0, .int .i64 0, .int .i64 0, .int .i64 0, .int .i64 0] t)) w.heap.size := ⟨tkO_new w _ _ _ _ _ _ _ _ _ _ _, freeK_new w _ _⟩
theorem keptT {wx wn : World} {b : Nat} (h : ResvT wx b) (hx : Below wx.heap.size wx wn) : ResvT wn b := ⟨h.1.kept hx, h.2.kept h.1.lt hx⟩
theorem newT' {wy wn : World} {t : TypeId} (hx : Below (wy.alloc (.cells #[.slice none 0 0, .int .i64 0, .int .i64 0, .int .i64 0, .int .i64 0, .int .i64 0, .int .i64 0, .int .i64 0, .int .i64 0, .int .i64 0] t)).heap.size (wy.alloc (.cells #[.slice none 0 0, .int .i64 0, .int .i64 0, .int .i64 0, .int .i64 0, .int .i64 0, .int .i64 0, .int .i64 0, .int .i64 0, .int .i64 0] t)) wn) : ResvT wn wy.heap.size := keptT (resvT_new wy t) hx
theorem newDT {wy wn : World} {t : TypeId} (hx : Below ((wy.alloc (.cells #[.slice none 0 0, .int .i64 0, .int .i64 0, .int .i64 0, .int .i64 0, .int .i64 0, .int .i64 0, .int .i64 0, .int .i64 0, .int .i64 0] t)).drew).heap.size ((wy.alloc (.cells #[.slice none 0 0, .int .i64 0, .int .i64 0, .int .i64 0, .int .i64 0, .int .i64 0, .int .i64 0, .int .i64 0, .int .i64 0, .int .i64 0] t)).drew) wn) : ResvT wn wy.heap.size := keptT (show ResvT (wy.alloc (.cells #[.slice none 0 0, .int .i64 0, .int .i64 0, .int .i64 0, .int .i64 0, .int .i64 0, .int .i64 0, .int .i64 0, .int .i64 0, .int .i64 0] t)).drew wy.heap.size from resvT_new wy t) hx
theorem stepTkA {w1 wx : World} {X : Prop} (h : X ∧ Below w1.heap.size w1 wx) (o : Obj) : Below w1.heap.size w1 (wx.alloc o) := h.2.alloc h.2.size _
theorem stepTkY {w1 wx : World} (h : Below w1.heap.size w1 wx) (o : Obj) : Below w1.heap.size w1 (wx.alloc o) := h.alloc h.size _
theorem belT {w1 wx : World} {b : Nat} (h : Below w1.heap.size w1 wx) (hb : w1.heap.size ≤ b) (x0 x1 x2 x3 x4 x5 x6 x7 x8 x9 : Value) : Below w1.heap.size w1 ((((((((((wx.setCell ⟨b, 0, none⟩ x0).setCell ⟨b, 1, none⟩ x1).setCell ⟨b, 2, none⟩ x2).setCell ⟨b, 3, none⟩ x3).setCell ⟨b, 4, none⟩ x4).setCell ⟨b, 5, none⟩ x5).setCell ⟨b, 6, none⟩ x6).setCell ⟨b, 7, none⟩ x7).setCell ⟨b, 8, none⟩ x8).setCell ⟨b, 9, none⟩ x9) := (((((((((h.setCell hb _).setCell hb _).setCell hb _).setCell hb _).setCell hb _).setCell hb _).setCell hb _).setCell hb _).setCell hb _).setCell hb _
/-- what was answered lies at a place of its own -/
def PlT (wx : World) (B : Nat) (sv : Value) (L2 : List St) (lim2 mode2 A2 B2 C2 D2 coast2 fr2 code : Int) : Prop := ∃ blk a cap, sv = .pointer (some ⟨blk, 0, none⟩) ∧ TkO wx blk (.slice a L2.length cap) lim2 mode2 A2 B2 C2 D2 coast2 fr2 code ∧ Copied wx B L2 a cap ∧ (∀ x, a = some x → x.block ≠ blk) ∧ B ≤ blk
theorem plT_new {wn : World} {B : Nat} {L2 : List St} {a : Option Addr} {cap : Nat} {lim2 mode2 A2 B2 C2 D2 coast2 fr2 code : Int} (hC : Copied wn B L2 a cap) (hB : B ≤ wn.heap.size) (t : TypeId) : PlT (wn.alloc (.cells #[.slice a L2.length cap, .int .i64 lim2, .int .i64 mode2, .int .i64 A2, .int .i64 B2, .int .i64 C2, .int .i64 D2, .int .i64 coast2, .int .i64 fr2, .int .i64 code] t)) B (.pointer (some ⟨wn.heap.size, 0, none⟩)) L2 lim2 mode2 A2 B2 C2 D2 coast2 fr2 code :=
  ⟨wn.heap.size, a, cap, rfl, tkO_new wn _ _ _ _ _ _ _ _ _ _ _, hC.kept (below1 _ _), fun x e => by have := (hC.block x e).2; omega, hB⟩
theorem plT_set {wn : World} {B b : Nat} {L2 : List St} {a : Option Addr} {cap : Nat} {lim2 mode2 A2 B2 C2 D2 coast2 fr2 code : Int} (hr : ResvT wn b) (hC : Copied wn B L2 a cap) (hB : B ≤ b) (hne : ∀ x, a = some x → x.block ≠ b) : PlT ((((((((((wn.setCell ⟨b, 0, none⟩ (.slice a L2.length cap)).setCell ⟨b, 1, none⟩ (.int .i64 lim2)).setCell ⟨b, 2, none⟩ (.int .i64 mode2)).setCell ⟨b, 3, none⟩ (.int .i64 A2)).setCell ⟨b, 4, none⟩ (.int .i64 B2)).setCell ⟨b, 5, none⟩ (.int .i64 C2)).setCell ⟨b, 6, none⟩ (.int .i64 D2)).setCell ⟨b, 7, none⟩ (.int .i64 coast2)).setCell ⟨b, 8, none⟩ (.int .i64 fr2)).setCell ⟨b, 9, none⟩ (.int .i64 code)) B (.pointer (some ⟨b, 0, none⟩)) L2 lim2 mode2 A2 B2 C2 D2 coast2 fr2 code := by
  refine ⟨b, a, cap, rfl, tkO_set10 hr.1 _ _ _ _ _ _ _ _ _ _, ?_, hne, hB⟩
  iterate 10 (refine Copied.off ?_ hne _ _)
  exact hC
theorem holdTU {w1 wx : World} {P Q : Nat} {u : Value} {lim mode A B C D coast fr g1 g2 g3 g4 : Int} (ta : TkAt w1 P u lim mode A B C D coast fr) (tb : TurnAt w1 Q g1 g2 g3 g4) (h : Below w1.heap.size w1 wx) : ((wx.cell? ⟨P, 0, none⟩ = some (u) ∧ wx.cell? ⟨P, 1, none⟩ = some (.int .i64 lim) ∧ wx.cell? ⟨P, 2, none⟩ = some (.int .i64 mode) ∧ wx.cell? ⟨P, 3, none⟩ = some (.int .i64 A) ∧ wx.cell? ⟨P, 4, none⟩ = some (.int .i64 B) ∧ wx.cell? ⟨P, 5, none⟩ = some (.int .i64 C) ∧ wx.cell? ⟨P, 6, none⟩ = some (.int .i64 D) ∧ wx.cell? ⟨P, 7, none⟩ = some (.int .i64 coast) ∧ wx.cell? ⟨P, 8, none⟩ = some (.int .i64 fr)) ∧ (wx.cell? ⟨Q, 0, none⟩ = some (.int .i64 g1) ∧ wx.cell? ⟨Q, 1, none⟩ = some (.int .i64 g2) ∧ wx.cell? ⟨Q, 2, none⟩ = some (.int .i64 g3) ∧ wx.cell? ⟨Q, 3, none⟩ = some (.int .i64 g4))) ∧ Below w1.heap.size w1 wx := ⟨⟨ta.kept h, tb.kept tb.lt h⟩, h⟩
theorem keptTU {w w' : World} {P Q : Nat} {u : Value} {lim mode A B C D coast fr g1 g2 g3 g4 : Int} (h : TkAt w P u lim mode A B C D coast fr ∧ TurnAt w Q g1 g2 g3 g4) (hx : Below w.heap.size w w') : TkAt w' P u lim mode A B C D coast fr ∧ TurnAt w' Q g1 g2 g3 g4 := ⟨h.1.kept hx, h.2.kept h.2.lt hx⟩
theorem turnKept {w w' : World} {b : Nat} {p q r s : Int} (h : TurnAt w b p q r s) (hx : Below w.heap.size w w') : TurnAt w' b p q r s := h.kept h.lt hx
theorem TurnAt.grown {w w' : World} {b : Nat} {p q r s : Int} {row : Option Nat} (h : TurnAt w b p q r s) (hg : w.grownBy w' row) (hne : some b ≠ row) : TurnAt w' b p q r s := ⟨cellG h.1 hg hne, cellG h.2.1 hg hne, cellG h.2.2.1 hg hne, cellG h.2.2.2 hg hne⟩

set_option maxHeartbeats 16000000 in
set_option maxRecDepth 100000 in
theorem lawGyro (L : List St) (lim mode A B C D coast fr g1 g2 g3 g4 : Int) (a : Option Addr) (c : Nat) (p : Addr) (w : World) (hn : L.length ≤ 1048576) (hS : Stars w a L L.length) (hE : ErrSky p w) :
    Calls Tryd.prog 5 #[.agg #[.slice a L.length c, .int .i64 lim, .int .i64 mode, .int .i64 A, .int .i64 B, .int .i64 C, .int .i64 D, .int .i64 coast, .int .i64 fr], .agg #[.int .i64 g1, .int .i64 g2, .int .i64 g3, .int .i64 g4]] w fun e w' => e = .returned (.bool true) ∧ Below w.heap.size w w' := by
  have HS := hide hS
  have HE := hide hE
  clear hS hE
  have cT := hide (fun W hW => toTracker_any L lim mode A B C D coast fr a c W hn hW)
  obtain ⟨t2, code, hn2, cS, cR⟩ : ∃ (t2 : Tk) (code : Int), t2.L.length ≤ 1048576 ∧ Hid (∀ (W : World) (b : Nat), Stars W (some ⟨b, 0, none⟩) L L.length → Calls Tryd.prog 21 #[.agg #[.slice (some ⟨b, 0, none⟩) L.length L.length, .int .i64 lim, .int .i64 mode, .int .i64 A, .int .i64 B, .int .i64 C, .int .i64 D, .int .i64 coast, .int .i64 fr], .agg #[.int .i64 g1, .int .i64 g2, .int .i64 g3, .int .i64 g4]] W fun e w' => OutT w' W.heap.size t2 code e ∧ Below W.heap.size W w')
    ∧ Hid (∀ (W : World) (b : Nat), Stars W (some ⟨b, 0, none⟩) L L.length → ErrSky p W → Calls Tryd.prog 23 #[.agg #[.slice (some ⟨b, 0, none⟩) L.length L.length, .int .i64 lim, .int .i64 mode, .int .i64 A, .int .i64 B, .int .i64 C, .int .i64 D, .int .i64 coast, .int .i64 fr], .agg #[.int .i64 g1, .int .i64 g2, .int .i64 g3, .int .i64 g4]] W fun e w' => OutT w' W.heap.size t2 code e ∧ Below W.heap.size W w') :=
    ⟨gyroT ⟨L, lim, mode, A, B, C, D, coast, fr⟩ g1 g2 g3 g4, gyroC ⟨L, lim, mode, A, B, C, D, coast, fr⟩ g1 g2 g3 g4, by unfold gyroT; split; rw [turned_L]; exact hn; exact Nat.zero_le _, hide (fun W b hW => specGyro_any L lim mode A B C D coast fr g1 g2 g3 g4 _ _ _ W hn hW), hide (fun W b hW hE => implGyro_any L lim mode A B C D coast fr g1 g2 g3 g4 _ _ _ p W hn (Nat.le_refl _) (by omega) hE hW)⟩
  obtain ⟨L2, lim2, mode2, A2, B2, C2, D2, coast2, fr2⟩ := t2
  unfold OutT at cS cR
  dsimp only at hn2 cS cR
  generalize L.length = n at *
  have h0 : ¬ (1048576 : Int) - (n : Int) < 0 := by omega
  have cU := hide (fun W => toTurn_any' g1 g2 g3 g4 W)
  have B0 := hide (below2 w (.cells #[.slice a n c, .int .i64 lim, .int .i64 mode, .int .i64 A, .int .i64 B, .int .i64 C, .int .i64 D, .int .i64 coast, .int .i64 fr] 26) (.cells #[.int .i64 g1, .int .i64 g2, .int .i64 g3, .int .i64 g4] 24))
  have T0 := hide ((tkAt_new w (.slice a n c) lim mode A B C D coast fr 26).kept (below1 _ (.cells #[.int .i64 g1, .int .i64 g2, .int .i64 g3, .int .i64 g4] 24)))
  have U0 := hide (by simpa using turnAt_new (w.alloc (.cells #[.slice a n c, .int .i64 lim, .int .i64 mode, .int .i64 A, .int .i64 B, .int .i64 C, .int .i64 D, .int .i64 coast, .int .i64 fr] 26)) g1 g2 g3 g4 24 : TurnAt ((w.alloc (.cells #[.slice a n c, .int .i64 lim, .int .i64 mode, .int .i64 A, .int .i64 B, .int .i64 C, .int .i64 D, .int .i64 coast, .int .i64 fr] 26)).alloc (.cells #[.int .i64 g1, .int .i64 g2, .int .i64 g3, .int .i64 g4] 24)) (w.heap.size + 1) g1 g2 g3 g4)
  go_enter Tryd.func5, Tryd.ntmps5
  go_wp2_with fail
  refine (szTracker_any a n c lim mode A B C D coast fr _ hn).mono ?_
  rintro e w1 ⟨rfl, hx⟩
  have B1 := hide (below_call (unhide B0) hx)
  have T1 := hide ((unhide T0).kept hx)
  have U1 := hide ((unhide U0).kept (unhide U0).lt hx)
  clear hx B0 T0 U0
  go_wp2_with fail
  have CT := hide (show TkAt w1 w.heap.size (.slice a n c) lim mode A B C D coast fr ∧ TurnAt w1 (w.heap.size + 1) g1 g2 g3 g4 from ⟨unhide T1, unhide U1⟩)
  go_cut [6] (fun sv wx => PlT wx w1.heap.size sv L2 lim2 mode2 A2 B2 C2 D2 coast2 fr2 code ∧ Below w1.heap.size w1 wx)
  case first =>
    refine wp_region_held_drew (S := (fun w' => (w'.cell? ⟨w.heap.size, 0, none⟩ = some (.slice a n c) ∧ w'.cell? ⟨w.heap.size, 1, none⟩ = some (.int .i64 lim) ∧ w'.cell? ⟨w.heap.size, 2, none⟩ = some (.int .i64 mode) ∧ w'.cell? ⟨w.heap.size, 3, none⟩ = some (.int .i64 A) ∧ w'.cell? ⟨w.heap.size, 4, none⟩ = some (.int .i64 B) ∧ w'.cell? ⟨w.heap.size, 5, none⟩ = some (.int .i64 C) ∧ w'.cell? ⟨w.heap.size, 6, none⟩ = some (.int .i64 D) ∧ w'.cell? ⟨w.heap.size, 7, none⟩ = some (.int .i64 coast) ∧ w'.cell? ⟨w.heap.size, 8, none⟩ = some (.int .i64 fr)) ∧ (w'.cell? ⟨w.heap.size + 1, 0, none⟩ = some (.int .i64 g1) ∧ w'.cell? ⟨w.heap.size + 1, 1, none⟩ = some (.int .i64 g2) ∧ w'.cell? ⟨w.heap.size + 1, 2, none⟩ = some (.int .i64 g3) ∧ w'.cell? ⟨w.heap.size + 1, 3, none⟩ = some (.int .i64 g4)))) (by kernel_rfl) ?_ (fun hHeld => ?_)
    · exact unhide CT
    refine wpAnyH_take (i := 0) (v := ?_) rfl (by kernel_rfl) (by kernel_rfl) (by kernel_rfl) (fun _ _ _ h => h) (Or.inl ⟨by rfl, ?_⟩) (by assumption) ?_
    rotate_left
    · intro W0 hSw; (try dsimp only at hSw); go_simp <;> with_reducible rfl
    try simp only [Act.put, List.setIfInBounds_toArray, List.set_cons_zero, List.set_cons_succ]
    refine wpAnyH_take (i := 2) (v := ?_) rfl (by kernel_rfl) (by kernel_rfl) (by kernel_rfl) (fun _ _ _ h => h) (Or.inl ⟨by rfl, ?_⟩) (by assumption) ?_
    rotate_left
    · intro W0 hSw; (try dsimp only at hSw); go_simp <;> with_reducible rfl
    try simp only [Act.put, List.setIfInBounds_toArray, List.set_cons_zero, List.set_cons_succ]
    have HW := hide ((Below.refl w1.heap.size w1).drew)
    have HH := hide (keptTU (unhide CT) (Below.refl _ _).drew)
    generalize hV : w1.drew = V at HW HH hHeld ⊢
    clear hV
    refine wpAnyH_ready (rs := [1, 5]) (by kernel_rfl) (by simp) ?_
    refine AllReadyH.cons rfl (fun K hK => ?_) (AllReadyH.cons rfl (fun K hK => ?_) AllReadyH.nil)
    · skip
      go_simp
      refine (unhide cT _ ((unhide HS).kept (below_call (unhide B1) (unhide HW)))).mono ?_
      rintro e V1 ⟨b2, rfl, ho, hb2, hx⟩
      have OT := hide ho
      clear ho hb2
      replace HW := hide (below_call (unhide HW) hx)
      replace HH := hide (keptTU (unhide HH) hx)
      clear hx
      refine hK.out _ _ (unhide HH) (fun hHeld1 => ?_)
      clear hK K hHeld
      refine wpAnyH_ready (rs := [3, 5]) (by kernel_rfl) (by simp) ?_
      refine AllReadyH.cons rfl (fun K hK => ?_) (AllReadyH.cons rfl (fun K hK => ?_) AllReadyH.nil)
      · skip
        go_simp
        refine (unhide cU _).mono ?_
        rintro e V2 ⟨rfl, hx⟩
        replace OT := hide ((unhide OT).kept hx)
        replace HW := hide (below_call (unhide HW) hx)
        replace HH := hide (keptTU (unhide HH) hx)
        clear hx
        refine hK.out _ _ (unhide HH) (fun hHeld2 => ?_)
        clear hK K hHeld1
        refine wpAnyH_ready (rs := [4, 5]) (by kernel_rfl) (by simp) ?_
        refine AllReadyH.cons rfl (fun K hK => ?_) (AllReadyH.cons rfl (fun K hK => ?_) AllReadyH.nil)
        · skip
          go_simp
          refine (unhide cS _ _ (unhide OT).stars).mono ?_
          rintro e V3 ⟨⟨a3, cap3, rfl, hC⟩, hx⟩
          have HC := hide (hC.low (B' := w1.heap.size) (unhide HW).size)
          clear hC
          replace HW := hide (below_call (unhide HW) hx)
          replace HH := hide (keptTU (unhide HH) hx)
          clear hx
          refine hK.out _ _ (unhide HH) (fun hHeld3 => ?_)
          clear hK K hHeld2
          refine wpAnyH_ready (rs := [5]) (by kernel_rfl) (by simp) ?_
          refine AllReadyH.cons rfl (fun K hK => ?_) AllReadyH.nil
          go_simp
          generalize hU : (World.alloc _ (.cells #[.slice none 0 0, .int .i64 0, .int .i64 0, .int .i64 0, .int .i64 0, .int .i64 0, .int .i64 0, .int .i64 0, .int .i64 0, .int .i64 0] 38)) = U4
          have hx : Below _ _ U4 := hU ▸ below1 _ _
          have HP : Hid (ResvT U4 _) := hide (hU ▸ resvT_new _ _)
          have HBL := hide (unhide HW).size
          have HNE := hide (fun x e => Nat.ne_of_lt ((unhide HC).block x e).2)
          replace HC := hide ((unhide HC).kept hx)
          replace HW := hide (below_call (unhide HW) hx)
          replace HH := hide (keptTU (unhide HH) hx)
          clear hx hU
          refine hK.out _ _ (unhide HH) (fun hHeld4 => ?_)
          clear hK K hHeld3
          refine wpAnyH_ready (rs := [6]) (by kernel_rfl) (by simp) ?_
          refine AllReadyH.cons rfl (fun K hK => ?_) AllReadyH.nil
          obtain ⟨⟨⟨r0, r1, r2, r3, r4, r5, r6, r7, r8⟩, r9⟩, hfz⟩ := unhide HP
          have f0 := hfz 0
          have f1 := hfz 1
          have f2 := hfz 2
          have f3 := hfz 3
          have f4 := hfz 4
          have f5 := hfz 5
          have f6 := hfz 6
          have f7 := hfz 7
          have f8 := hfz 8
          have f9 := hfz 9
          go_simp
          clear r0 r1 r2 r3 r4 r5 r6 r7 r8 r9 f0 f1 f2 f3 f4 f5 f6 f7 f8 f9 hfz
          refine hK.out _ _ ?_ (fun hHeldE => ?_)
          · exact keptTU (unhide CT) (belT (unhide HW) (unhide HBL) _ _ _ _ _ _ _ _ _ _)
          refine wpAnyH_done (by kernel_rfl) ?_ _
          clear hHeldE
          go_wp2_with fail
          go_meet
          exact ⟨plT_set (unhide HP) (unhide HC) (unhide HBL) (unhide HNE), belT (unhide HW) (unhide HBL) _ _ _ _ _ _ _ _ _ _⟩
        · skip
          go_simp
          generalize hU : (World.alloc _ (.cells #[.slice none 0 0, .int .i64 0, .int .i64 0, .int .i64 0, .int .i64 0, .int .i64 0, .int .i64 0, .int .i64 0, .int .i64 0, .int .i64 0] 38)) = U3
          have hx : Below _ _ U3 := hU ▸ below1 _ _
          have HP : Hid (ResvT U3 _) := hide (hU ▸ resvT_new _ _)
          have HBL := hide (unhide HW).size
          try replace OT := hide ((unhide OT).kept hx)
          replace HW := hide (below_call (unhide HW) hx)
          replace HH := hide (keptTU (unhide HH) hx)
          clear hx hU
          refine hK.out _ _ (unhide HH) (fun hHeld3 => ?_)
          clear hK K hHeld2
          refine wpAnyH_ready (rs := [4]) (by kernel_rfl) (by simp) ?_
          refine AllReadyH.cons rfl (fun K hK => ?_) AllReadyH.nil
          go_simp
          refine (unhide cS _ _ (unhide OT).stars).mono ?_
          rintro e V4 ⟨⟨a3, cap3, rfl, hC⟩, hx⟩
          have HNE := hide (fun x e => (Nat.ne_of_lt (Nat.lt_of_lt_of_le (unhide HP).1.lt (hC.block x e).1)).symm)
          have HC := hide (hC.low (B' := w1.heap.size) (unhide HW).size)
          clear hC
          replace HW := hide (below_call (unhide HW) hx)
          replace HH := hide (keptTU (unhide HH) hx)
          replace HP := hide (keptT (unhide HP) hx)
          clear hx
          refine hK.out _ _ (unhide HH) (fun hHeld4 => ?_)
          clear hK K hHeld3
          refine wpAnyH_ready (rs := [6]) (by kernel_rfl) (by simp) ?_
          refine AllReadyH.cons rfl (fun K hK => ?_) AllReadyH.nil
          obtain ⟨⟨⟨r0, r1, r2, r3, r4, r5, r6, r7, r8⟩, r9⟩, hfz⟩ := unhide HP
          have f0 := hfz 0
          have f1 := hfz 1
          have f2 := hfz 2
          have f3 := hfz 3
          have f4 := hfz 4
          have f5 := hfz 5
          have f6 := hfz 6
          have f7 := hfz 7
          have f8 := hfz 8
          have f9 := hfz 9
          go_simp
          clear r0 r1 r2 r3 r4 r5 r6 r7 r8 r9 f0 f1 f2 f3 f4 f5 f6 f7 f8 f9 hfz
          refine hK.out _ _ ?_ (fun hHeldE => ?_)
          · exact keptTU (unhide CT) (belT (unhide HW) (unhide HBL) _ _ _ _ _ _ _ _ _ _)
          refine wpAnyH_done (by kernel_rfl) ?_ _
          clear hHeldE
          go_wp2_with fail
          go_meet
          exact ⟨plT_set (unhide HP) (unhide HC) (unhide HBL) (unhide HNE), belT (unhide HW) (unhide HBL) _ _ _ _ _ _ _ _ _ _⟩
      · skip
        go_simp
        generalize hU : (World.alloc _ (.cells #[.slice none 0 0, .int .i64 0, .int .i64 0, .int .i64 0, .int .i64 0, .int .i64 0, .int .i64 0, .int .i64 0, .int .i64 0, .int .i64 0] 38)) = U2
        have hx : Below _ _ U2 := hU ▸ below1 _ _
        have HP : Hid (ResvT U2 _) := hide (hU ▸ resvT_new _ _)
        have HBL := hide (unhide HW).size
        try replace OT := hide ((unhide OT).kept hx)
        replace HW := hide (below_call (unhide HW) hx)
        replace HH := hide (keptTU (unhide HH) hx)
        clear hx hU
        refine hK.out _ _ (unhide HH) (fun hHeld2 => ?_)
        clear hK K hHeld1
        refine wpAnyH_ready (rs := [3]) (by kernel_rfl) (by simp) ?_
        refine AllReadyH.cons rfl (fun K hK => ?_) AllReadyH.nil
        go_simp
        refine (unhide cU _).mono ?_
        rintro e V3 ⟨rfl, hx⟩
        replace OT := hide ((unhide OT).kept hx)
        replace HW := hide (below_call (unhide HW) hx)
        replace HH := hide (keptTU (unhide HH) hx)
        replace HP := hide (keptT (unhide HP) hx)
        clear hx
        refine hK.out _ _ (unhide HH) (fun hHeld3 => ?_)
        clear hK K hHeld2
        refine wpAnyH_ready (rs := [4]) (by kernel_rfl) (by simp) ?_
        refine AllReadyH.cons rfl (fun K hK => ?_) AllReadyH.nil
        go_simp
        refine (unhide cS _ _ (unhide OT).stars).mono ?_
        rintro e V4 ⟨⟨a3, cap3, rfl, hC⟩, hx⟩
        have HNE := hide (fun x e => (Nat.ne_of_lt (Nat.lt_of_lt_of_le (unhide HP).1.lt (hC.block x e).1)).symm)
        have HC := hide (hC.low (B' := w1.heap.size) (unhide HW).size)
        clear hC
        replace HW := hide (below_call (unhide HW) hx)
        replace HH := hide (keptTU (unhide HH) hx)
        replace HP := hide (keptT (unhide HP) hx)
        clear hx
        refine hK.out _ _ (unhide HH) (fun hHeld4 => ?_)
        clear hK K hHeld3
        refine wpAnyH_ready (rs := [6]) (by kernel_rfl) (by simp) ?_
        refine AllReadyH.cons rfl (fun K hK => ?_) AllReadyH.nil
        obtain ⟨⟨⟨r0, r1, r2, r3, r4, r5, r6, r7, r8⟩, r9⟩, hfz⟩ := unhide HP
        have f0 := hfz 0
        have f1 := hfz 1
        have f2 := hfz 2
        have f3 := hfz 3
        have f4 := hfz 4
        have f5 := hfz 5
        have f6 := hfz 6
        have f7 := hfz 7
        have f8 := hfz 8
        have f9 := hfz 9
        go_simp
        clear r0 r1 r2 r3 r4 r5 r6 r7 r8 r9 f0 f1 f2 f3 f4 f5 f6 f7 f8 f9 hfz
        refine hK.out _ _ ?_ (fun hHeldE => ?_)
        · exact keptTU (unhide CT) (belT (unhide HW) (unhide HBL) _ _ _ _ _ _ _ _ _ _)
        refine wpAnyH_done (by kernel_rfl) ?_ _
        clear hHeldE
        go_wp2_with fail
        go_meet
        exact ⟨plT_set (unhide HP) (unhide HC) (unhide HBL) (unhide HNE), belT (unhide HW) (unhide HBL) _ _ _ _ _ _ _ _ _ _⟩
    · skip
      go_simp
      generalize hU : (World.alloc _ (.cells #[.slice none 0 0, .int .i64 0, .int .i64 0, .int .i64 0, .int .i64 0, .int .i64 0, .int .i64 0, .int .i64 0, .int .i64 0, .int .i64 0] 38)) = U1
      have hx : Below _ _ U1 := hU ▸ below1 _ _
      have HP : Hid (ResvT U1 _) := hide (hU ▸ resvT_new _ _)
      have HBL := hide (unhide HW).size
      replace HW := hide (below_call (unhide HW) hx)
      replace HH := hide (keptTU (unhide HH) hx)
      clear hx hU
      refine hK.out _ _ (unhide HH) (fun hHeld1 => ?_)
      clear hK K hHeld
      refine wpAnyH_ready (rs := [1]) (by kernel_rfl) (by simp) ?_
      refine AllReadyH.cons rfl (fun K hK => ?_) AllReadyH.nil
      go_simp
      refine (unhide cT _ ((unhide HS).kept (below_call (unhide B1) (unhide HW)))).mono ?_
      rintro e V2 ⟨b2, rfl, ho, hb2, hx⟩
      have OT := hide ho
      clear ho hb2
      replace HW := hide (below_call (unhide HW) hx)
      replace HH := hide (keptTU (unhide HH) hx)
      replace HP := hide (keptT (unhide HP) hx)
      clear hx
      refine hK.out _ _ (unhide HH) (fun hHeld2 => ?_)
      clear hK K hHeld1
      refine wpAnyH_ready (rs := [3]) (by kernel_rfl) (by simp) ?_
      refine AllReadyH.cons rfl (fun K hK => ?_) AllReadyH.nil
      go_simp
      refine (unhide cU _).mono ?_
      rintro e V3 ⟨rfl, hx⟩
      replace OT := hide ((unhide OT).kept hx)
      replace HW := hide (below_call (unhide HW) hx)
      replace HH := hide (keptTU (unhide HH) hx)
      replace HP := hide (keptT (unhide HP) hx)
      clear hx
      refine hK.out _ _ (unhide HH) (fun hHeld3 => ?_)
      clear hK K hHeld2
      refine wpAnyH_ready (rs := [4]) (by kernel_rfl) (by simp) ?_
      refine AllReadyH.cons rfl (fun K hK => ?_) AllReadyH.nil
      go_simp
      refine (unhide cS _ _ (unhide OT).stars).mono ?_
      rintro e V4 ⟨⟨a3, cap3, rfl, hC⟩, hx⟩
      have HNE := hide (fun x e => (Nat.ne_of_lt (Nat.lt_of_lt_of_le (unhide HP).1.lt (hC.block x e).1)).symm)
      have HC := hide (hC.low (B' := w1.heap.size) (unhide HW).size)
      clear hC
      replace HW := hide (below_call (unhide HW) hx)
      replace HH := hide (keptTU (unhide HH) hx)
      replace HP := hide (keptT (unhide HP) hx)
      clear hx
      refine hK.out _ _ (unhide HH) (fun hHeld4 => ?_)
      clear hK K hHeld3
      refine wpAnyH_ready (rs := [6]) (by kernel_rfl) (by simp) ?_
      refine AllReadyH.cons rfl (fun K hK => ?_) AllReadyH.nil
      obtain ⟨⟨⟨r0, r1, r2, r3, r4, r5, r6, r7, r8⟩, r9⟩, hfz⟩ := unhide HP
      have f0 := hfz 0
      have f1 := hfz 1
      have f2 := hfz 2
      have f3 := hfz 3
      have f4 := hfz 4
      have f5 := hfz 5
      have f6 := hfz 6
      have f7 := hfz 7
      have f8 := hfz 8
      have f9 := hfz 9
      go_simp
      clear r0 r1 r2 r3 r4 r5 r6 r7 r8 r9 f0 f1 f2 f3 f4 f5 f6 f7 f8 f9 hfz
      refine hK.out _ _ ?_ (fun hHeldE => ?_)
      · exact keptTU (unhide CT) (belT (unhide HW) (unhide HBL) _ _ _ _ _ _ _ _ _ _)
      refine wpAnyH_done (by kernel_rfl) ?_ _
      clear hHeldE
      go_wp2_with fail
      go_meet
      exact ⟨plT_set (unhide HP) (unhide HC) (unhide HBL) (unhide HNE), belT (unhide HW) (unhide HBL) _ _ _ _ _ _ _ _ _ _⟩
  case rest =>
  obtain ⟨⟨wb, a3, cap3, rfl, hO, hC, hN, hL⟩, hx⟩ := hcut
  clear CT
  have C3 := hide hC
  have B3 := hide (below_call (unhide B1) hx)
  have T3 := hide ((unhide T1).kept hx)
  have U3 := hide (turnKept (unhide U1) hx)
  have W3 := hide hO
  clear hx hC hO hN hL B1 T1 U1
  generalize hwe : wc = V3 at C3 B3 T3 U3 W3 ⊢
  clear hwe
  obtain ⟨q0, q1, q2, q3, q4, q5, q6, q7, q8⟩ := unhide T3
  go_wp2_with fail
  clear q0 q1 q2 q3 q4 q5 q6 q7 q8
  refine (unhide cT _ ((unhide HS).kept (unhide B3))).mono ?_
  rintro e w4 ⟨b4, rfl, ho, hb4, hx⟩
  have Z4 := below1 w4 (.cells #[.slice (some ⟨b4, 0, none⟩) n n, .int .i64 lim, .int .i64 mode, .int .i64 A, .int .i64 B, .int .i64 C, .int .i64 D, .int .i64 coast, .int .i64 fr] 32)
  have O4 := hide (ho.kept Z4)
  have B4 := hide (below_call (below_call (unhide B3) hx) Z4)
  have T4 := hide (((unhide T3).kept hx).kept Z4)
  have U4 := hide (turnKept (turnKept (unhide U3) hx) Z4)
  have X4 := hide (tkAt_new w4 (.slice (some ⟨b4, 0, none⟩) n n) lim mode A B C D coast fr 32)
  have W4 := hide (((unhide W3).kept hx).kept Z4)
  have C4 := hide (((unhide C3).stars.kept hx).kept Z4)
  have hr3 : ∀ x, a3 = some x → x.block < b4 := fun x e => by have := ((unhide C3).block x e).2; omega
  have hwb : wb < b4 := by have := (unhide W3).lt; omega
  have hbl : b4 < w4.heap.size := ho.lt
  have hul : w.heap.size + 1 < b4 := by have := (unhide U3).lt; omega
  have hwl : w.heap.size < b4 := by have := (unhide T3).lt; omega
  clear hx ho hb4 B3 T3 U3 Z4 W3 C3
  go_wp2_with fail
  generalize hV4 : w4.alloc (.cells #[.slice (some ⟨b4, 0, none⟩) n n, .int .i64 lim, .int .i64 mode, .int .i64 A, .int .i64 B, .int .i64 C, .int .i64 D, .int .i64 coast, .int .i64 fr] 32) = V4 at *
  generalize hx4 : w4.heap.size = xb at *
  clear hV4 hx4
  have CX := hide (show TkAt V4 xb (.slice (some ⟨b4, 0, none⟩) n n) lim mode A B C D coast fr ∧ TurnAt V4 (w.heap.size + 1) g1 g2 g3 g4 from ⟨unhide X4, unhide U4⟩)
  go_cut [8] (fun sv wx => PlT wx V4.heap.size sv L2 lim2 mode2 A2 B2 C2 D2 coast2 fr2 code ∧ Below V4.heap.size V4 wx)
  case first =>
    refine wp_region_held_drew (S := (fun w' => (w'.cell? ⟨xb, 0, none⟩ = some (.slice (some ⟨b4, 0, none⟩) n n) ∧ w'.cell? ⟨xb, 1, none⟩ = some (.int .i64 lim) ∧ w'.cell? ⟨xb, 2, none⟩ = some (.int .i64 mode) ∧ w'.cell? ⟨xb, 3, none⟩ = some (.int .i64 A) ∧ w'.cell? ⟨xb, 4, none⟩ = some (.int .i64 B) ∧ w'.cell? ⟨xb, 5, none⟩ = some (.int .i64 C) ∧ w'.cell? ⟨xb, 6, none⟩ = some (.int .i64 D) ∧ w'.cell? ⟨xb, 7, none⟩ = some (.int .i64 coast) ∧ w'.cell? ⟨xb, 8, none⟩ = some (.int .i64 fr)) ∧ (w'.cell? ⟨w.heap.size + 1, 0, none⟩ = some (.int .i64 g1) ∧ w'.cell? ⟨w.heap.size + 1, 1, none⟩ = some (.int .i64 g2) ∧ w'.cell? ⟨w.heap.size + 1, 2, none⟩ = some (.int .i64 g3) ∧ w'.cell? ⟨w.heap.size + 1, 3, none⟩ = some (.int .i64 g4)))) (by kernel_rfl) ?_ (fun hHeld => ?_)
    · exact unhide CX
    refine wpAnyH_take (i := 0) (v := ?_) rfl (by kernel_rfl) (by kernel_rfl) (by kernel_rfl) (fun _ _ _ h => h) (Or.inl ⟨by rfl, ?_⟩) (by assumption) ?_
    rotate_left
    · intro W0 hSw; (try dsimp only at hSw); go_simp <;> with_reducible rfl
    try simp only [Act.put, List.setIfInBounds_toArray, List.set_cons_zero, List.set_cons_succ]
    refine wpAnyH_take (i := 1) (v := ?_) rfl (by kernel_rfl) (by kernel_rfl) (by kernel_rfl) (fun _ _ _ h => h) (Or.inl ⟨by rfl, ?_⟩) (by assumption) ?_
    rotate_left
    · intro W0 hSw; (try dsimp only at hSw); go_simp <;> with_reducible rfl
    try simp only [Act.put, List.setIfInBounds_toArray, List.set_cons_zero, List.set_cons_succ]
    have HW := hide ((Below.refl V4.heap.size V4).drew)
    have HH := hide (keptTU (unhide CX) (Below.refl _ _).drew)
    generalize hV : V4.drew = V at HW HH hHeld ⊢
    clear hV
    refine wpAnyH_ready (rs := [2, 4]) (by kernel_rfl) (by simp) ?_
    refine AllReadyH.cons rfl (fun K hK => ?_) (AllReadyH.cons rfl (fun K hK => ?_) AllReadyH.nil)
    · skip
      go_simp
      refine (unhide cU _).mono ?_
      rintro e V1 ⟨rfl, hx⟩
      replace HW := hide (below_call (unhide HW) hx)
      replace HH := hide (keptTU (unhide HH) hx)
      clear hx
      refine hK.out _ _ (unhide HH) (fun hHeld1 => ?_)
      clear hK K hHeld
      refine wpAnyH_ready (rs := [3, 4]) (by kernel_rfl) (by simp) ?_
      refine AllReadyH.cons rfl (fun K hK => ?_) (AllReadyH.cons rfl (fun K hK => ?_) AllReadyH.nil)
      · skip
        go_simp
        refine (unhide cR _ _ ((unhide O4).stars.kept (unhide HW)) ((unhide HE).kept (below_call (unhide B4) (unhide HW)))).mono ?_
        rintro e V2 ⟨⟨a3, cap3, rfl, hC⟩, hx⟩
        have HC := hide (hC.low (B' := V4.heap.size) (unhide HW).size)
        clear hC
        replace HW := hide (below_call (unhide HW) hx)
        replace HH := hide (keptTU (unhide HH) hx)
        clear hx
        refine hK.out _ _ (unhide HH) (fun hHeld2 => ?_)
        clear hK K hHeld1
        refine wpAnyH_ready (rs := [4]) (by kernel_rfl) (by simp) ?_
        refine AllReadyH.cons rfl (fun K hK => ?_) AllReadyH.nil
        go_simp
        generalize hU : (World.alloc _ (.cells #[.slice none 0 0, .int .i64 0, .int .i64 0, .int .i64 0, .int .i64 0, .int .i64 0, .int .i64 0, .int .i64 0, .int .i64 0, .int .i64 0] 38)) = U3
        have hx : Below _ _ U3 := hU ▸ below1 _ _
        have HP : Hid (ResvT U3 _) := hide (hU ▸ resvT_new _ _)
        have HBL := hide (unhide HW).size
        have HNE := hide (fun x e => Nat.ne_of_lt ((unhide HC).block x e).2)
        replace HC := hide ((unhide HC).kept hx)
        replace HW := hide (below_call (unhide HW) hx)
        replace HH := hide (keptTU (unhide HH) hx)
        clear hx hU
        refine hK.out _ _ (unhide HH) (fun hHeld3 => ?_)
        clear hK K hHeld2
        refine wpAnyH_ready (rs := [5]) (by kernel_rfl) (by simp) ?_
        refine AllReadyH.cons rfl (fun K hK => ?_) AllReadyH.nil
        obtain ⟨⟨⟨r0, r1, r2, r3, r4, r5, r6, r7, r8⟩, r9⟩, hfz⟩ := unhide HP
        have f0 := hfz 0
        have f1 := hfz 1
        have f2 := hfz 2
        have f3 := hfz 3
        have f4 := hfz 4
        have f5 := hfz 5
        have f6 := hfz 6
        have f7 := hfz 7
        have f8 := hfz 8
        have f9 := hfz 9
        go_simp
        clear r0 r1 r2 r3 r4 r5 r6 r7 r8 r9 f0 f1 f2 f3 f4 f5 f6 f7 f8 f9 hfz
        refine hK.out _ _ ?_ (fun hHeldE => ?_)
        · exact keptTU (unhide CX) (belT (unhide HW) (unhide HBL) _ _ _ _ _ _ _ _ _ _)
        refine wpAnyH_done (by kernel_rfl) ?_ _
        clear hHeldE
        go_wp2_with fail
        go_meet
        exact ⟨plT_set (unhide HP) (unhide HC) (unhide HBL) (unhide HNE), belT (unhide HW) (unhide HBL) _ _ _ _ _ _ _ _ _ _⟩
      · skip
        go_simp
        generalize hU : (World.alloc _ (.cells #[.slice none 0 0, .int .i64 0, .int .i64 0, .int .i64 0, .int .i64 0, .int .i64 0, .int .i64 0, .int .i64 0, .int .i64 0, .int .i64 0] 38)) = U2
        have hx : Below _ _ U2 := hU ▸ below1 _ _
        have HP : Hid (ResvT U2 _) := hide (hU ▸ resvT_new _ _)
        have HBL := hide (unhide HW).size
        try replace OT := hide ((unhide OT).kept hx)
        replace HW := hide (below_call (unhide HW) hx)
        replace HH := hide (keptTU (unhide HH) hx)
        clear hx hU
        refine hK.out _ _ (unhide HH) (fun hHeld2 => ?_)
        clear hK K hHeld1
        refine wpAnyH_ready (rs := [3]) (by kernel_rfl) (by simp) ?_
        refine AllReadyH.cons rfl (fun K hK => ?_) AllReadyH.nil
        go_simp
        refine (unhide cR _ _ ((unhide O4).stars.kept (unhide HW)) ((unhide HE).kept (below_call (unhide B4) (unhide HW)))).mono ?_
        rintro e V3 ⟨⟨a3, cap3, rfl, hC⟩, hx⟩
        have HNE := hide (fun x e => (Nat.ne_of_lt (Nat.lt_of_lt_of_le (unhide HP).1.lt (hC.block x e).1)).symm)
        have HC := hide (hC.low (B' := V4.heap.size) (unhide HW).size)
        clear hC
        replace HW := hide (below_call (unhide HW) hx)
        replace HH := hide (keptTU (unhide HH) hx)
        replace HP := hide (keptT (unhide HP) hx)
        clear hx
        refine hK.out _ _ (unhide HH) (fun hHeld3 => ?_)
        clear hK K hHeld2
        refine wpAnyH_ready (rs := [5]) (by kernel_rfl) (by simp) ?_
        refine AllReadyH.cons rfl (fun K hK => ?_) AllReadyH.nil
        obtain ⟨⟨⟨r0, r1, r2, r3, r4, r5, r6, r7, r8⟩, r9⟩, hfz⟩ := unhide HP
        have f0 := hfz 0
        have f1 := hfz 1
        have f2 := hfz 2
        have f3 := hfz 3
        have f4 := hfz 4
        have f5 := hfz 5
        have f6 := hfz 6
        have f7 := hfz 7
        have f8 := hfz 8
        have f9 := hfz 9
        go_simp
        clear r0 r1 r2 r3 r4 r5 r6 r7 r8 r9 f0 f1 f2 f3 f4 f5 f6 f7 f8 f9 hfz
        refine hK.out _ _ ?_ (fun hHeldE => ?_)
        · exact keptTU (unhide CX) (belT (unhide HW) (unhide HBL) _ _ _ _ _ _ _ _ _ _)
        refine wpAnyH_done (by kernel_rfl) ?_ _
        clear hHeldE
        go_wp2_with fail
        go_meet
        exact ⟨plT_set (unhide HP) (unhide HC) (unhide HBL) (unhide HNE), belT (unhide HW) (unhide HBL) _ _ _ _ _ _ _ _ _ _⟩
    · skip
      go_simp
      generalize hU : (World.alloc _ (.cells #[.slice none 0 0, .int .i64 0, .int .i64 0, .int .i64 0, .int .i64 0, .int .i64 0, .int .i64 0, .int .i64 0, .int .i64 0, .int .i64 0] 38)) = U1
      have hx : Below _ _ U1 := hU ▸ below1 _ _
      have HP : Hid (ResvT U1 _) := hide (hU ▸ resvT_new _ _)
      have HBL := hide (unhide HW).size
      replace HW := hide (below_call (unhide HW) hx)
      replace HH := hide (keptTU (unhide HH) hx)
      clear hx hU
      refine hK.out _ _ (unhide HH) (fun hHeld1 => ?_)
      clear hK K hHeld
      refine wpAnyH_ready (rs := [2]) (by kernel_rfl) (by simp) ?_
      refine AllReadyH.cons rfl (fun K hK => ?_) AllReadyH.nil
      go_simp
      refine (unhide cU _).mono ?_
      rintro e V2 ⟨rfl, hx⟩
      replace HW := hide (below_call (unhide HW) hx)
      replace HH := hide (keptTU (unhide HH) hx)
      replace HP := hide (keptT (unhide HP) hx)
      clear hx
      refine hK.out _ _ (unhide HH) (fun hHeld2 => ?_)
      clear hK K hHeld1
      refine wpAnyH_ready (rs := [3]) (by kernel_rfl) (by simp) ?_
      refine AllReadyH.cons rfl (fun K hK => ?_) AllReadyH.nil
      go_simp
      refine (unhide cR _ _ ((unhide O4).stars.kept (unhide HW)) ((unhide HE).kept (below_call (unhide B4) (unhide HW)))).mono ?_
      rintro e V3 ⟨⟨a3, cap3, rfl, hC⟩, hx⟩
      have HNE := hide (fun x e => (Nat.ne_of_lt (Nat.lt_of_lt_of_le (unhide HP).1.lt (hC.block x e).1)).symm)
      have HC := hide (hC.low (B' := V4.heap.size) (unhide HW).size)
      clear hC
      replace HW := hide (below_call (unhide HW) hx)
      replace HH := hide (keptTU (unhide HH) hx)
      replace HP := hide (keptT (unhide HP) hx)
      clear hx
      refine hK.out _ _ (unhide HH) (fun hHeld3 => ?_)
      clear hK K hHeld2
      refine wpAnyH_ready (rs := [5]) (by kernel_rfl) (by simp) ?_
      refine AllReadyH.cons rfl (fun K hK => ?_) AllReadyH.nil
      obtain ⟨⟨⟨r0, r1, r2, r3, r4, r5, r6, r7, r8⟩, r9⟩, hfz⟩ := unhide HP
      have f0 := hfz 0
      have f1 := hfz 1
      have f2 := hfz 2
      have f3 := hfz 3
      have f4 := hfz 4
      have f5 := hfz 5
      have f6 := hfz 6
      have f7 := hfz 7
      have f8 := hfz 8
      have f9 := hfz 9
      go_simp
      clear r0 r1 r2 r3 r4 r5 r6 r7 r8 r9 f0 f1 f2 f3 f4 f5 f6 f7 f8 f9 hfz
      refine hK.out _ _ ?_ (fun hHeldE => ?_)
      · exact keptTU (unhide CX) (belT (unhide HW) (unhide HBL) _ _ _ _ _ _ _ _ _ _)
      refine wpAnyH_done (by kernel_rfl) ?_ _
      clear hHeldE
      go_wp2_with fail
      go_meet
      exact ⟨plT_set (unhide HP) (unhide HC) (unhide HBL) (unhide HNE), belT (unhide HW) (unhide HBL) _ _ _ _ _ _ _ _ _ _⟩
  case rest =>
  obtain ⟨⟨gb, a5, cap5, rfl, hO, hC, hN, hL⟩, hx⟩ := hcut
  clear CX
  have C5 := hide hC
  have O5 := hide ((unhide O4).kept hx)
  have B5 := hide (below_call (unhide B4) hx)
  have T5 := hide ((unhide T4).kept hx)
  have U5 := hide (turnKept (unhide U4) hx)
  have X5 := hide ((unhide X4).kept hx)
  have W5 := hide ((unhide W4).kept hx)
  have D5 := hide ((unhide C4).kept hx)
  have G5 := hide hO
  have hxb : xb < V4.heap.size := (unhide X4).lt
  have hb4V : b4 < V4.heap.size := (unhide O4).lt
  have hgb : V4.heap.size ≤ gb := hL
  have hr5 : ∀ x, a5 = some x → V4.heap.size ≤ x.block ∧ x.block ≠ gb := fun x e => ⟨(hC.block x e).1, hN x e⟩
  clear hx hC hO hN hL O4 B4 T4 U4 X4 W4 C4
  generalize hwe : wc = V5 at C5 O5 B5 T5 U5 X5 W5 D5 G5 ⊢
  clear hwe
  obtain ⟨⟨g0, g1, g2, g3, g4, g5, g6, g7, g8⟩, g9⟩ := unhide G5
  obtain ⟨⟨q0, q1, q2, q3, q4, q5, q6, q7, q8⟩, q9⟩ := unhide W5
  go_wp2_with fail
  clear g0 g1 g2 g3 g4 g5 g6 g7 g8 g9 q0 q1 q2 q3 q4 q5 q6 q7 q8 q9
  refine (eqTrackerOut_same L2 L2.length lim2 mode2 A2 B2 C2 D2 coast2 fr2 code a5 a3 cap5 cap3 _ hn2 (unhide C5).stars (unhide D5)).mono ?_
  rintro e w6 ⟨rfl, hx⟩
  have C6 := hide ((unhide C5).kept hx)
  have O6 := hide ((unhide O5).kept hx)
  have B6 := hide (below_call (unhide B5) hx)
  have T6 := hide ((unhide T5).kept hx)
  have U6 := hide (turnKept (unhide U5) hx)
  have X6 := hide ((unhide X5).kept hx)
  have W6 := hide ((unhide W5).kept hx)
  have D6 := hide ((unhide D5).kept hx)
  have G6 := hide ((unhide G5).kept hx)
  clear hx C5 O5 B5 T5 X5 W5 D5 G5
  go_wp2_with fail
  go_region_held (fun w' => ((w'.cell? ⟨w.heap.size, 0, none⟩ = some (.slice a n c) ∧ w'.cell? ⟨w.heap.size, 1, none⟩ = some (.int .i64 lim) ∧ w'.cell? ⟨w.heap.size, 2, none⟩ = some (.int .i64 mode) ∧ w'.cell? ⟨w.heap.size, 3, none⟩ = some (.int .i64 A) ∧ w'.cell? ⟨w.heap.size, 4, none⟩ = some (.int .i64 B) ∧ w'.cell? ⟨w.heap.size, 5, none⟩ = some (.int .i64 C) ∧ w'.cell? ⟨w.heap.size, 6, none⟩ = some (.int .i64 D) ∧ w'.cell? ⟨w.heap.size, 7, none⟩ = some (.int .i64 coast) ∧ w'.cell? ⟨w.heap.size, 8, none⟩ = some (.int .i64 fr)) ∧ (w'.cell? ⟨xb, 0, none⟩ = some (.slice (some ⟨b4, 0, none⟩) n n) ∧ w'.cell? ⟨xb, 1, none⟩ = some (.int .i64 lim) ∧ w'.cell? ⟨xb, 2, none⟩ = some (.int .i64 mode) ∧ w'.cell? ⟨xb, 3, none⟩ = some (.int .i64 A) ∧ w'.cell? ⟨xb, 4, none⟩ = some (.int .i64 B) ∧ w'.cell? ⟨xb, 5, none⟩ = some (.int .i64 C) ∧ w'.cell? ⟨xb, 6, none⟩ = some (.int .i64 D) ∧ w'.cell? ⟨xb, 7, none⟩ = some (.int .i64 coast) ∧ w'.cell? ⟨xb, 8, none⟩ = some (.int .i64 fr))) ∧ Below w6.heap.size w6 w') (first | (with_reducible exact holdTT (unhide T6) (unhide X6) (Below.refl _ _).drew) | (with_reducible exact holdTT (unhide T6) (unhide X6) (by assumption))) (first | (go_at_call 9; (with_reducible refine (unhide cT _ ((unhide HS).kept (below_call (unhide B6) (And.right (by assumption))))).mono ?_); rintro e wn ⟨b7, rfl, ho, hb7, hx⟩; have OT := hide ho; clear ho hb7; have hw : Below w6.heap.size w6 wn := (by first | (with_reducible exact stepTkZ hx (by assumption)) | (with_reducible exact stepTkD hx (by assumption)) | (with_reducible exact (Below.refl _ _).drew.trans (hx.mono (Nat.le_refl _))))) | (go_at_call 11; (with_reducible refine (eqTracker_same L n lim mode A B C D coast fr _ _ _ _ _ hn ((unhide O6).stars.kept (And.right (by assumption))) (unhide OT).stars).mono ?_); rintro e wn ⟨rfl, hx⟩; have hw : Below w6.heap.size w6 wn := (by first | (with_reducible exact stepTkZ hx (by assumption)) | (with_reducible exact stepTkD hx (by assumption)))))
  have C7 := hide ((unhide C6).kept hw)
  have O7 := hide ((unhide O6).kept hw)
  have B7 := hide (below_call (unhide B6) hw)
  have T7 := hide ((unhide T6).kept hw)
  have U7 := hide (turnKept (unhide U6) hw)
  have X7 := hide ((unhide X6).kept hw)
  have W7 := hide ((unhide W6).kept hw)
  have D7 := hide ((unhide D6).kept hw)
  have G7 := hide ((unhide G6).kept hw)
  clear OT C6 O6 B6 T6 X6 W6 D6 G6
  obtain ⟨q0, q1, q2, q3, q4, q5, q6, q7, q8⟩ := unhide X7
  go_wp2_with fail
  clear q0 q1 q2 q3 q4 q5 q6 q7 q8
  refine (markTracker_any n lim mode A B C D coast fr (some ⟨b4, 0, none⟩) n (some b4) _ hn (unhide O7).row).mono ?_
  rintro e w8 ⟨rfl, hm, hg⟩
  have B8 := hide (belowR (unhide B7) hg (unhide B7).size (fun g e => by cases e; omega))
  have T8 := hide ((unhide T7).grown hg (fun e => by have := Option.some.inj e; omega))
  have U8 := hide ((unhide U7).grown hg (fun e => by have := Option.some.inj e; omega))
  have W8 := hide ((unhide W7).grown hg (fun e => by have := Option.some.inj e; omega))
  have D8 := hide ((unhide D7).grown hg (fun x g e e' => by have := hr3 x e; cases e'; omega))
  have C8 := hide ((unhide C7).grown hg (fun g e => by cases e; exact hb4V))
  have G8 := hide ((unhide G7).grown hg (fun e => by have := Option.some.inj e; omega))
  clear hm hg B7 T7 W7 D7 C7 G7 O7 X7
  obtain ⟨K1, hK1⟩ : ∃ K1 : Int, 1 + (n : Int) * 4 = K1 := ⟨_, rfl⟩
  have hk0 : ¬ K1 < 0 := by omega
  rw [hK1]
  clear hK1
  obtain ⟨⟨g0, g1, g2, g3, g4, g5, g6, g7, g8⟩, g9⟩ := unhide G8
  obtain ⟨⟨q0, q1, q2, q3, q4, q5, q6, q7, q8⟩, q9⟩ := unhide W8
  go_wp2_with fail
  clear g0 g1 g2 g3 g4 g5 g6 g7 g8 g9 q0 q1 q2 q3 q4 q5 q6 q7 q8 q9
  refine (eqTrackerOut_same L2 L2.length lim2 mode2 A2 B2 C2 D2 coast2 fr2 code a5 a3 cap5 cap3 _ hn2 (unhide C8).stars (unhide D8)).mono ?_
  rintro e w9 ⟨rfl, hx⟩
  have C9 := hide ((unhide C8).kept hx)
  have B9 := hide (below_call (unhide B8) hx)
  have T9 := hide ((unhide T8).kept hx)
  have U9 := hide (turnKept (unhide U8) hx)
  have W9 := hide ((unhide W8).kept hx)
  have D9 := hide ((unhide D8).kept hx)
  have G9 := hide ((unhide G8).kept hx)
  clear hx C8 B8 T8 W8 D8 G8
  obtain ⟨⟨g0, g1, g2, g3, g4, g5, g6, g7, g8⟩, g9⟩ := unhide G9
  go_wp2_with fail
  clear g0 g1 g2 g3 g4 g5 g6 g7 g8 g9
  obtain ⟨row, hrow, hrb⟩ := (unhide C9).row
  have hrow2 : ∀ g, row = some g → V4.heap.size ≤ g ∧ g ≠ gb := fun g e => by
    rcases hrow with ⟨_, h⟩ | ⟨g', f, h1, h2, _⟩
    · rw [h] at e; cases e
    · rw [h2] at e
      obtain rfl := Option.some.inj e
      exact hr5 _ h1
  refine (markTrackerOut_any L2.length lim2 mode2 A2 B2 C2 D2 coast2 fr2 code a5 cap5 row _ hn2 hrow).mono ?_
  rintro e wa ⟨rfl, hm, hg⟩
  have Ba := hide (belowR (unhide B9) hg (unhide B9).size (fun g e => by have := hrow2 g e; omega))
  have Ta := hide ((unhide T9).grown hg (fun e => by have := hrow2 _ e.symm; omega))
  have Ua := hide ((unhide U9).grown hg (fun e => by have := hrow2 _ e.symm; omega))
  have Wa := hide ((unhide W9).grown hg (fun e => by have := hrow2 _ e.symm; omega))
  have Da := hide ((unhide D9).grown hg (fun x g e e' => by have := hr3 x e; have := hrow2 g e'; omega))
  have Ga := hide ((unhide G9).grown hg (fun e => by have := hrow2 _ e.symm; omega))
  have Ma := hide hm
  clear hm hg B9 T9 W9 D9 C9 G9 hrow
  obtain ⟨K2, hK2⟩ : ∃ K2 : Int, 1 + (L2.length : Int) * 4 = K2 := ⟨_, rfl⟩
  have hk2 : ¬ K2 < 0 := by omega
  have cH : Hid (∀ W : World, Mkd W a5 L2.length row → Calls Tryd.prog 20 #[.agg #[.slice a5 L2.length cap5, .int .i64 lim2, .int .i64 mode2, .int .i64 A2, .int .i64 B2, .int .i64 C2, .int .i64 D2, .int .i64 coast2, .int .i64 fr2, .int .i64 code], .int .i64 1] W fun e w' => e = .returned (.int .i64 K2) ∧ Below W.heap.size W w') := hide (fun W h => by rw [← hK2]; exact heldTrackerOut_any L2.length lim2 mode2 A2 B2 C2 D2 coast2 fr2 code a5 cap5 row W hn2 h)
  rw [hK2]
  clear hK2
  obtain ⟨⟨g0, g1, g2, g3, g4, g5, g6, g7, g8⟩, g9⟩ := unhide Ga
  go_wp2_with fail
  clear g0 g1 g2 g3 g4 g5 g6 g7 g8 g9
  refine (unhide cH _ (unhide Ma)).mono ?_
  rintro e wbx ⟨rfl, hx⟩
  have Bb := hide (below_call (unhide Ba) hx)
  have Tb := hide ((unhide Ta).kept hx)
  have Ub := hide (turnKept (unhide Ua) hx)
  have Wb := hide ((unhide Wa).kept hx)
  have Db := hide ((unhide Da).kept hx)
  have Gb := hide ((unhide Ga).kept hx)
  have Mb := hide ((unhide Ma).kept hx)
  clear hx Ba Ta Wa Da Ga Ma
  go_wp2_with fail
  have CB := hide (show TkAt wbx w.heap.size (.slice a n c) lim mode A B C D coast fr ∧ TurnAt wbx (w.heap.size + 1) g1 g2 g3 g4 from ⟨unhide Tb, unhide Ub⟩)
  go_cut [12] (fun sv wx => PlT wx wbx.heap.size sv L2 lim2 mode2 A2 B2 C2 D2 coast2 fr2 code ∧ Below wbx.heap.size wbx wx)
  case first =>
    refine wp_region_held_drew (S := (fun w' => (w'.cell? ⟨w.heap.size, 0, none⟩ = some (.slice a n c) ∧ w'.cell? ⟨w.heap.size, 1, none⟩ = some (.int .i64 lim) ∧ w'.cell? ⟨w.heap.size, 2, none⟩ = some (.int .i64 mode) ∧ w'.cell? ⟨w.heap.size, 3, none⟩ = some (.int .i64 A) ∧ w'.cell? ⟨w.heap.size, 4, none⟩ = some (.int .i64 B) ∧ w'.cell? ⟨w.heap.size, 5, none⟩ = some (.int .i64 C) ∧ w'.cell? ⟨w.heap.size, 6, none⟩ = some (.int .i64 D) ∧ w'.cell? ⟨w.heap.size, 7, none⟩ = some (.int .i64 coast) ∧ w'.cell? ⟨w.heap.size, 8, none⟩ = some (.int .i64 fr)) ∧ (w'.cell? ⟨w.heap.size + 1, 0, none⟩ = some (.int .i64 g1) ∧ w'.cell? ⟨w.heap.size + 1, 1, none⟩ = some (.int .i64 g2) ∧ w'.cell? ⟨w.heap.size + 1, 2, none⟩ = some (.int .i64 g3) ∧ w'.cell? ⟨w.heap.size + 1, 3, none⟩ = some (.int .i64 g4)))) (by kernel_rfl) ?_ (fun hHeld => ?_)
    · exact unhide CB
    refine wpAnyH_take (i := 0) (v := ?_) rfl (by kernel_rfl) (by kernel_rfl) (by kernel_rfl) (fun _ _ _ h => h) (Or.inl ⟨by rfl, ?_⟩) (by assumption) ?_
    rotate_left
    · intro W0 hSw; (try dsimp only at hSw); go_simp <;> with_reducible rfl
    try simp only [Act.put, List.setIfInBounds_toArray, List.set_cons_zero, List.set_cons_succ]
    refine wpAnyH_take (i := 2) (v := ?_) rfl (by kernel_rfl) (by kernel_rfl) (by kernel_rfl) (fun _ _ _ h => h) (Or.inl ⟨by rfl, ?_⟩) (by assumption) ?_
    rotate_left
    · intro W0 hSw; (try dsimp only at hSw); go_simp <;> with_reducible rfl
    try simp only [Act.put, List.setIfInBounds_toArray, List.set_cons_zero, List.set_cons_succ]
    have HW := hide ((Below.refl wbx.heap.size wbx).drew)
    have HH := hide (keptTU (unhide CB) (Below.refl _ _).drew)
    generalize hV : wbx.drew = V at HW HH hHeld ⊢
    clear hV
    refine wpAnyH_ready (rs := [1, 5]) (by kernel_rfl) (by simp) ?_
    refine AllReadyH.cons rfl (fun K hK => ?_) (AllReadyH.cons rfl (fun K hK => ?_) AllReadyH.nil)
    · skip
      go_simp
      refine (unhide cT _ ((unhide HS).kept (below_call (unhide Bb) (unhide HW)))).mono ?_
      rintro e V1 ⟨b2, rfl, ho, hb2, hx⟩
      have OT := hide ho
      clear ho hb2
      replace HW := hide (below_call (unhide HW) hx)
      replace HH := hide (keptTU (unhide HH) hx)
      clear hx
      refine hK.out _ _ (unhide HH) (fun hHeld1 => ?_)
      clear hK K hHeld
      refine wpAnyH_ready (rs := [3, 5]) (by kernel_rfl) (by simp) ?_
      refine AllReadyH.cons rfl (fun K hK => ?_) (AllReadyH.cons rfl (fun K hK => ?_) AllReadyH.nil)
      · skip
        go_simp
        refine (unhide cU _).mono ?_
        rintro e V2 ⟨rfl, hx⟩
        replace OT := hide ((unhide OT).kept hx)
        replace HW := hide (below_call (unhide HW) hx)
        replace HH := hide (keptTU (unhide HH) hx)
        clear hx
        refine hK.out _ _ (unhide HH) (fun hHeld2 => ?_)
        clear hK K hHeld1
        refine wpAnyH_ready (rs := [4, 5]) (by kernel_rfl) (by simp) ?_
        refine AllReadyH.cons rfl (fun K hK => ?_) (AllReadyH.cons rfl (fun K hK => ?_) AllReadyH.nil)
        · skip
          go_simp
          refine (unhide cR _ _ (unhide OT).stars ((unhide HE).kept (below_call (unhide Bb) (unhide HW)))).mono ?_
          rintro e V3 ⟨⟨a3, cap3, rfl, hC⟩, hx⟩
          have HC := hide (hC.low (B' := wbx.heap.size) (unhide HW).size)
          clear hC
          replace HW := hide (below_call (unhide HW) hx)
          replace HH := hide (keptTU (unhide HH) hx)
          clear hx
          refine hK.out _ _ (unhide HH) (fun hHeld3 => ?_)
          clear hK K hHeld2
          refine wpAnyH_ready (rs := [5]) (by kernel_rfl) (by simp) ?_
          refine AllReadyH.cons rfl (fun K hK => ?_) AllReadyH.nil
          go_simp
          generalize hU : (World.alloc _ (.cells #[.slice none 0 0, .int .i64 0, .int .i64 0, .int .i64 0, .int .i64 0, .int .i64 0, .int .i64 0, .int .i64 0, .int .i64 0, .int .i64 0] 38)) = U4
          have hx : Below _ _ U4 := hU ▸ below1 _ _
          have HP : Hid (ResvT U4 _) := hide (hU ▸ resvT_new _ _)
          have HBL := hide (unhide HW).size
          have HNE := hide (fun x e => Nat.ne_of_lt ((unhide HC).block x e).2)
          replace HC := hide ((unhide HC).kept hx)
          replace HW := hide (below_call (unhide HW) hx)
          replace HH := hide (keptTU (unhide HH) hx)
          clear hx hU
          refine hK.out _ _ (unhide HH) (fun hHeld4 => ?_)
          clear hK K hHeld3
          refine wpAnyH_ready (rs := [6]) (by kernel_rfl) (by simp) ?_
          refine AllReadyH.cons rfl (fun K hK => ?_) AllReadyH.nil
          obtain ⟨⟨⟨r0, r1, r2, r3, r4, r5, r6, r7, r8⟩, r9⟩, hfz⟩ := unhide HP
          have f0 := hfz 0
          have f1 := hfz 1
          have f2 := hfz 2
          have f3 := hfz 3
          have f4 := hfz 4
          have f5 := hfz 5
          have f6 := hfz 6
          have f7 := hfz 7
          have f8 := hfz 8
          have f9 := hfz 9
          go_simp
          clear r0 r1 r2 r3 r4 r5 r6 r7 r8 r9 f0 f1 f2 f3 f4 f5 f6 f7 f8 f9 hfz
          refine hK.out _ _ ?_ (fun hHeldE => ?_)
          · exact keptTU (unhide CB) (belT (unhide HW) (unhide HBL) _ _ _ _ _ _ _ _ _ _)
          refine wpAnyH_done (by kernel_rfl) ?_ _
          clear hHeldE
          go_wp2_with fail
          go_meet
          exact ⟨plT_set (unhide HP) (unhide HC) (unhide HBL) (unhide HNE), belT (unhide HW) (unhide HBL) _ _ _ _ _ _ _ _ _ _⟩
        · skip
          go_simp
          generalize hU : (World.alloc _ (.cells #[.slice none 0 0, .int .i64 0, .int .i64 0, .int .i64 0, .int .i64 0, .int .i64 0, .int .i64 0, .int .i64 0, .int .i64 0, .int .i64 0] 38)) = U3
          have hx : Below _ _ U3 := hU ▸ below1 _ _
          have HP : Hid (ResvT U3 _) := hide (hU ▸ resvT_new _ _)
          have HBL := hide (unhide HW).size
          try replace OT := hide ((unhide OT).kept hx)
          replace HW := hide (below_call (unhide HW) hx)
          replace HH := hide (keptTU (unhide HH) hx)
          clear hx hU
          refine hK.out _ _ (unhide HH) (fun hHeld3 => ?_)
          clear hK K hHeld2
          refine wpAnyH_ready (rs := [4]) (by kernel_rfl) (by simp) ?_
          refine AllReadyH.cons rfl (fun K hK => ?_) AllReadyH.nil
          go_simp
          refine (unhide cR _ _ (unhide OT).stars ((unhide HE).kept (below_call (unhide Bb) (unhide HW)))).mono ?_
          rintro e V4 ⟨⟨a3, cap3, rfl, hC⟩, hx⟩
          have HNE := hide (fun x e => (Nat.ne_of_lt (Nat.lt_of_lt_of_le (unhide HP).1.lt (hC.block x e).1)).symm)
          have HC := hide (hC.low (B' := wbx.heap.size) (unhide HW).size)
          clear hC
          replace HW := hide (below_call (unhide HW) hx)
          replace HH := hide (keptTU (unhide HH) hx)
          replace HP := hide (keptT (unhide HP) hx)
          clear hx
          refine hK.out _ _ (unhide HH) (fun hHeld4 => ?_)
          clear hK K hHeld3
          refine wpAnyH_ready (rs := [6]) (by kernel_rfl) (by simp) ?_
          refine AllReadyH.cons rfl (fun K hK => ?_) AllReadyH.nil
          obtain ⟨⟨⟨r0, r1, r2, r3, r4, r5, r6, r7, r8⟩, r9⟩, hfz⟩ := unhide HP
          have f0 := hfz 0
          have f1 := hfz 1
          have f2 := hfz 2
          have f3 := hfz 3
          have f4 := hfz 4
          have f5 := hfz 5
          have f6 := hfz 6
          have f7 := hfz 7
          have f8 := hfz 8
          have f9 := hfz 9
          go_simp
          clear r0 r1 r2 r3 r4 r5 r6 r7 r8 r9 f0 f1 f2 f3 f4 f5 f6 f7 f8 f9 hfz
          refine hK.out _ _ ?_ (fun hHeldE => ?_)
          · exact keptTU (unhide CB) (belT (unhide HW) (unhide HBL) _ _ _ _ _ _ _ _ _ _)
          refine wpAnyH_done (by kernel_rfl) ?_ _
          clear hHeldE
          go_wp2_with fail
          go_meet
          exact ⟨plT_set (unhide HP) (unhide HC) (unhide HBL) (unhide HNE), belT (unhide HW) (unhide HBL) _ _ _ _ _ _ _ _ _ _⟩
      · skip
        go_simp
        generalize hU : (World.alloc _ (.cells #[.slice none 0 0, .int .i64 0, .int .i64 0, .int .i64 0, .int .i64 0, .int .i64 0, .int .i64 0, .int .i64 0, .int .i64 0, .int .i64 0] 38)) = U2
        have hx : Below _ _ U2 := hU ▸ below1 _ _
        have HP : Hid (ResvT U2 _) := hide (hU ▸ resvT_new _ _)
        have HBL := hide (unhide HW).size
        try replace OT := hide ((unhide OT).kept hx)
        replace HW := hide (below_call (unhide HW) hx)
        replace HH := hide (keptTU (unhide HH) hx)
        clear hx hU
        refine hK.out _ _ (unhide HH) (fun hHeld2 => ?_)
        clear hK K hHeld1
        refine wpAnyH_ready (rs := [3]) (by kernel_rfl) (by simp) ?_
        refine AllReadyH.cons rfl (fun K hK => ?_) AllReadyH.nil
        go_simp
        refine (unhide cU _).mono ?_
        rintro e V3 ⟨rfl, hx⟩
        replace OT := hide ((unhide OT).kept hx)
        replace HW := hide (below_call (unhide HW) hx)
        replace HH := hide (keptTU (unhide HH) hx)
        replace HP := hide (keptT (unhide HP) hx)
        clear hx
        refine hK.out _ _ (unhide HH) (fun hHeld3 => ?_)
        clear hK K hHeld2
        refine wpAnyH_ready (rs := [4]) (by kernel_rfl) (by simp) ?_
        refine AllReadyH.cons rfl (fun K hK => ?_) AllReadyH.nil
        go_simp
        refine (unhide cR _ _ (unhide OT).stars ((unhide HE).kept (below_call (unhide Bb) (unhide HW)))).mono ?_
        rintro e V4 ⟨⟨a3, cap3, rfl, hC⟩, hx⟩
        have HNE := hide (fun x e => (Nat.ne_of_lt (Nat.lt_of_lt_of_le (unhide HP).1.lt (hC.block x e).1)).symm)
        have HC := hide (hC.low (B' := wbx.heap.size) (unhide HW).size)
        clear hC
        replace HW := hide (below_call (unhide HW) hx)
        replace HH := hide (keptTU (unhide HH) hx)
        replace HP := hide (keptT (unhide HP) hx)
        clear hx
        refine hK.out _ _ (unhide HH) (fun hHeld4 => ?_)
        clear hK K hHeld3
        refine wpAnyH_ready (rs := [6]) (by kernel_rfl) (by simp) ?_
        refine AllReadyH.cons rfl (fun K hK => ?_) AllReadyH.nil
        obtain ⟨⟨⟨r0, r1, r2, r3, r4, r5, r6, r7, r8⟩, r9⟩, hfz⟩ := unhide HP
        have f0 := hfz 0
        have f1 := hfz 1
        have f2 := hfz 2
        have f3 := hfz 3
        have f4 := hfz 4
        have f5 := hfz 5
        have f6 := hfz 6
        have f7 := hfz 7
        have f8 := hfz 8
        have f9 := hfz 9
        go_simp
        clear r0 r1 r2 r3 r4 r5 r6 r7 r8 r9 f0 f1 f2 f3 f4 f5 f6 f7 f8 f9 hfz
        refine hK.out _ _ ?_ (fun hHeldE => ?_)
        · exact keptTU (unhide CB) (belT (unhide HW) (unhide HBL) _ _ _ _ _ _ _ _ _ _)
        refine wpAnyH_done (by kernel_rfl) ?_ _
        clear hHeldE
        go_wp2_with fail
        go_meet
        exact ⟨plT_set (unhide HP) (unhide HC) (unhide HBL) (unhide HNE), belT (unhide HW) (unhide HBL) _ _ _ _ _ _ _ _ _ _⟩
    · skip
      go_simp
      generalize hU : (World.alloc _ (.cells #[.slice none 0 0, .int .i64 0, .int .i64 0, .int .i64 0, .int .i64 0, .int .i64 0, .int .i64 0, .int .i64 0, .int .i64 0, .int .i64 0] 38)) = U1
      have hx : Below _ _ U1 := hU ▸ below1 _ _
      have HP : Hid (ResvT U1 _) := hide (hU ▸ resvT_new _ _)
      have HBL := hide (unhide HW).size
      replace HW := hide (below_call (unhide HW) hx)
      replace HH := hide (keptTU (unhide HH) hx)
      clear hx hU
      refine hK.out _ _ (unhide HH) (fun hHeld1 => ?_)
      clear hK K hHeld
      refine wpAnyH_ready (rs := [1]) (by kernel_rfl) (by simp) ?_
      refine AllReadyH.cons rfl (fun K hK => ?_) AllReadyH.nil
      go_simp
      refine (unhide cT _ ((unhide HS).kept (below_call (unhide Bb) (unhide HW)))).mono ?_
      rintro e V2 ⟨b2, rfl, ho, hb2, hx⟩
      have OT := hide ho
      clear ho hb2
      replace HW := hide (below_call (unhide HW) hx)
      replace HH := hide (keptTU (unhide HH) hx)
      replace HP := hide (keptT (unhide HP) hx)
      clear hx
      refine hK.out _ _ (unhide HH) (fun hHeld2 => ?_)
      clear hK K hHeld1
      refine wpAnyH_ready (rs := [3]) (by kernel_rfl) (by simp) ?_
      refine AllReadyH.cons rfl (fun K hK => ?_) AllReadyH.nil
      go_simp
      refine (unhide cU _).mono ?_
      rintro e V3 ⟨rfl, hx⟩
      replace OT := hide ((unhide OT).kept hx)
      replace HW := hide (below_call (unhide HW) hx)
      replace HH := hide (keptTU (unhide HH) hx)
      replace HP := hide (keptT (unhide HP) hx)
      clear hx
      refine hK.out _ _ (unhide HH) (fun hHeld3 => ?_)
      clear hK K hHeld2
      refine wpAnyH_ready (rs := [4]) (by kernel_rfl) (by simp) ?_
      refine AllReadyH.cons rfl (fun K hK => ?_) AllReadyH.nil
      go_simp
      refine (unhide cR _ _ (unhide OT).stars ((unhide HE).kept (below_call (unhide Bb) (unhide HW)))).mono ?_
      rintro e V4 ⟨⟨a3, cap3, rfl, hC⟩, hx⟩
      have HNE := hide (fun x e => (Nat.ne_of_lt (Nat.lt_of_lt_of_le (unhide HP).1.lt (hC.block x e).1)).symm)
      have HC := hide (hC.low (B' := wbx.heap.size) (unhide HW).size)
      clear hC
      replace HW := hide (below_call (unhide HW) hx)
      replace HH := hide (keptTU (unhide HH) hx)
      replace HP := hide (keptT (unhide HP) hx)
      clear hx
      refine hK.out _ _ (unhide HH) (fun hHeld4 => ?_)
      clear hK K hHeld3
      refine wpAnyH_ready (rs := [6]) (by kernel_rfl) (by simp) ?_
      refine AllReadyH.cons rfl (fun K hK => ?_) AllReadyH.nil
      obtain ⟨⟨⟨r0, r1, r2, r3, r4, r5, r6, r7, r8⟩, r9⟩, hfz⟩ := unhide HP
      have f0 := hfz 0
      have f1 := hfz 1
      have f2 := hfz 2
      have f3 := hfz 3
      have f4 := hfz 4
      have f5 := hfz 5
      have f6 := hfz 6
      have f7 := hfz 7
      have f8 := hfz 8
      have f9 := hfz 9
      go_simp
      clear r0 r1 r2 r3 r4 r5 r6 r7 r8 r9 f0 f1 f2 f3 f4 f5 f6 f7 f8 f9 hfz
      refine hK.out _ _ ?_ (fun hHeldE => ?_)
      · exact keptTU (unhide CB) (belT (unhide HW) (unhide HBL) _ _ _ _ _ _ _ _ _ _)
      refine wpAnyH_done (by kernel_rfl) ?_ _
      clear hHeldE
      go_wp2_with fail
      go_meet
      exact ⟨plT_set (unhide HP) (unhide HC) (unhide HBL) (unhide HNE), belT (unhide HW) (unhide HBL) _ _ _ _ _ _ _ _ _ _⟩
  case rest =>
  obtain ⟨⟨hb, ad, capd, rfl, hO, hC, hN, hL⟩, hx⟩ := hcut
  clear CB
  have Cd := hide hC.stars
  have Bd := hide (below_call (unhide Bb) hx)
  have Wd := hide ((unhide Wb).kept hx)
  have Dd := hide ((unhide Db).kept hx)
  have Gd := hide ((unhide Gb).kept hx)
  have Md := hide ((unhide Mb).kept hx)
  have Hd := hO
  clear hx hC hO hN hL Bb Tb Ub Wb Db Gb Mb
  generalize hwe : wc = Vd at Cd Bd Wd Dd Gd Md Hd ⊢
  clear hwe
  obtain ⟨⟨g0, g1, g2, g3, g4, g5, g6, g7, g8⟩, g9⟩ := Hd
  obtain ⟨⟨q0, q1, q2, q3, q4, q5, q6, q7, q8⟩, q9⟩ := unhide Wd
  go_wp2_with fail
  clear g0 g1 g2 g3 g4 g5 g6 g7 g8 g9 q0 q1 q2 q3 q4 q5 q6 q7 q8 q9
  refine (eqTrackerOut_same L2 L2.length lim2 mode2 A2 B2 C2 D2 coast2 fr2 code ad a3 capd cap3 _ hn2 (unhide Cd) (unhide Dd)).mono ?_
  rintro e we ⟨rfl, hx⟩
  have Be := hide (below_call (unhide Bd) hx)
  have Ge := hide ((unhide Gd).kept hx)
  have Me := hide ((unhide Md).kept hx)
  clear hx Bd Wd Dd Gd Md Cd
  obtain ⟨⟨g0, g1, g2, g3, g4, g5, g6, g7, g8⟩, g9⟩ := unhide Ge
  go_wp2_with fail
  clear g0 g1 g2 g3 g4 g5 g6 g7 g8 g9
  refine (unhide cH _ (unhide Me)).mono ?_
  rintro e wf ⟨rfl, hx⟩
  have Bf := hide (below_call (unhide Be) hx)
  clear hx
  go_wp2_with fail
  go_ret
  exact ⟨rfl, unhide Bf⟩
set_option maxRecDepth 100000 in
theorem lawGyro_big (n : Nat) (lim mode A B C D coast fr g1 g2 g3 g4 : Int) (a : Option Addr) (c : Nat) (w : World) (hn : 1048576 < n) (hm : n ≤ 9223372036854775807) :
    Calls Tryd.prog 5 #[.agg #[.slice a n c, .int .i64 lim, .int .i64 mode, .int .i64 A, .int .i64 B, .int .i64 C, .int .i64 D, .int .i64 coast, .int .i64 fr], .agg #[.int .i64 g1, .int .i64 g2, .int .i64 g3, .int .i64 g4]] w fun e w' => e = .returned (.bool true) ∧ Below w.heap.size w w' := by
  have B0 := hide (below2 w (.cells #[.slice a n c, .int .i64 lim, .int .i64 mode, .int .i64 A, .int .i64 B, .int .i64 C, .int .i64 D, .int .i64 coast, .int .i64 fr] 26) (.cells #[.int .i64 g1, .int .i64 g2, .int .i64 g3, .int .i64 g4] 24))
  go_enter Tryd.func5, Tryd.ntmps5
  go_wp2_with fail
  refine (szTracker_big a n c lim mode A B C D coast fr _ hn hm).mono ?_
  rintro e w1 ⟨rfl, hx⟩
  have B1 := hide (below_call (unhide B0) hx)
  clear hx
  go_wp2_with fail
  go_ret
  exact ⟨rfl, unhide B1⟩
theorem lawGyro_all (L : List St) (a : Option Addr) (len cap : Nat) (lim mode A B C D coast fr : Int) (hl : L.length = len) (hm : len ≤ maxLen) (g1 g2 g3 g4 : Int) (w : World) (hS : Stars w a L len) (hE : ∃ p, ErrSky p w) :
    Calls Tryd.prog 5 #[.agg #[.slice a len cap, .int .i64 lim, .int .i64 mode, .int .i64 A, .int .i64 B, .int .i64 C, .int .i64 D, .int .i64 coast, .int .i64 fr], .agg #[.int .i64 g1, .int .i64 g2, .int .i64 g3, .int .i64 g4]] w fun e w' => e = .returned (.bool true) ∧ Below w.heap.size w w' := by
  obtain ⟨p, hp⟩ := hE
  subst hl
  have hm' : maxLen ≤ 9223372036854775807 := by decide +kernel
  by_cases h : L.length ≤ 1048576
  · exact lawGyro L lim mode A B C D coast fr g1 g2 g3 g4 a cap p w h hS hp
  · exact lawGyro_big L.length lim mode A B C D coast fr g1 g2 g3 g4 a cap w (by omega) (by omega)
end Go.Proofs.YtdclojpgbekmeaaDoor
