/- Several texts in one: ObH. -/
import Derived.Deep.RegionHeld
import Derived.Deep.DeepCutAuto
import Derived.Test.YteoonaanoenjiaaGreatDoorQObeyOwn25
import Derived.Test.YteoonaanoenjiaaGreatDoorQObeyOwn26
import Derived.Test.YteoonaanoenjiaaGreatDoorQObeyOwn27
namespace Go.Proofs.YteoonaanoenjiaaGreatDoor
open Go.RowKit Go.Sort
set_option linter.unusedVariables false
set_option linter.unusedSimpArgs false
theorem obeyT_len (t : Tk) (c : Cm) (h : t.L.length ≤ 1048576) : (obeyT t c).L.length ≤ 1048576 := by
  unfold obeyT
  split
  · split
    · unfold resetT; split; exact h; exact Nat.zero_le _
    · split
      · unfold gyroT; split; rw [turned_L]; exact h; exact Nat.zero_le _
      · split
        · exact lookT_len _ _ h
        · exact lookT_len _ _ h
  · exact Nat.zero_le _
set_option maxHeartbeats 1000000 in
set_option maxRecDepth 100000 in
theorem lawObey_neg (n m : Nat) (lim mode A B C D coast fr kind g1 g2 g3 g4 wd ht lv fo : Int) (px : ByteArray) (a br : Option Addr) (c dr : Nat) (w : World) (hn : n ≤ 1048576) (hm : m ≤ 9223372036854775807) (hs : px.size ≤ maxLen) (hz : szCf (1048576 - (n : Int)) m px < 0) :
    Calls Tryz.prog 3 #[.agg #[.slice a n c, .int .i64 lim, .int .i64 mode, .int .i64 A, .int .i64 B, .int .i64 C, .int .i64 D, .int .i64 coast, .int .i64 fr], .agg #[.int .i64 kind, .int .i64 g1, .int .i64 g2, .int .i64 g3, .int .i64 g4, .slice br m dr, .int .i64 wd, .int .i64 ht, .string px, .int .i64 lv, .int .i64 fo]] w fun e w' => e = .returned (.bool true) ∧ Below w.heap.size w w' := by
  have B0 := yz (below2 w (.cells #[.slice a n c, .int .i64 lim, .int .i64 mode, .int .i64 A, .int .i64 B, .int .i64 C, .int .i64 D, .int .i64 coast, .int .i64 fr] 26) (.cells #[.int .i64 kind, .int .i64 g1, .int .i64 g2, .int .i64 g3, .int .i64 g4, .slice br m dr, .int .i64 wd, .int .i64 ht, .string px, .int .i64 lv, .int .i64 fo] 31))
  have K0 := yz (by simpa using blk_new (w.alloc (.cells #[.slice a n c, .int .i64 lim, .int .i64 mode, .int .i64 A, .int .i64 B, .int .i64 C, .int .i64 D, .int .i64 coast, .int .i64 fr] 26)) [.int .i64 kind, .int .i64 g1, .int .i64 g2, .int .i64 g3, .int .i64 g4, .slice br m dr, .int .i64 wd, .int .i64 ht, .string px, .int .i64 lv, .int .i64 fo] 31 : Blk ((w.alloc (.cells #[.slice a n c, .int .i64 lim, .int .i64 mode, .int .i64 A, .int .i64 B, .int .i64 C, .int .i64 D, .int .i64 coast, .int .i64 fr] 26)).alloc (.cells #[.int .i64 kind, .int .i64 g1, .int .i64 g2, .int .i64 g3, .int .i64 g4, .slice br m dr, .int .i64 wd, .int .i64 ht, .string px, .int .i64 lv, .int .i64 fo] 31)) (w.heap.size + 1) [.int .i64 kind, .int .i64 g1, .int .i64 g2, .int .i64 g3, .int .i64 g4, .slice br m dr, .int .i64 wd, .int .i64 ht, .string px, .int .i64 lv, .int .i64 fo] 31)
  have cZ := yz (fun W => szCommand_from kind g1 g2 g3 g4 wd ht lv fo px br m dr (1048576 - (n : Int)) W (by omega) (by omega) hm hs)
  generalize szCf (1048576 - (n : Int)) m px = z at *
  have h0 : ¬ (1048576 : Int) - (n : Int) < 0 := by omega
  go_enter Tryz.func3, Tryz.ntmps3
  go_wp2_with fail
  refine (szTracker_any a n c lim mode A B C D coast fr _ hn).mono ?_
  rintro e w1 ⟨rfl, hx⟩
  have B1 := yz (below_call (yx B0) hx)
  have K1 := yz ((yx K0).kept hx)
  clear hx B0 K0
  obtain ⟨k0, k1, k2, k3, k4, k5, k6, k7, k8, k9, k10⟩ := bcs11 (yx K1)
  go_wp2_with fail
  clear k0 k1 k2 k3 k4 k5 k6 k7 k8 k9 k10
  refine (yx cZ _).mono ?_
  rintro e w2 ⟨rfl, hx⟩
  have B2 := yz (below_call (yx B1) hx)
  clear hx B1 K1
  go_wp2_with fail
  go_ret
  exact ⟨rfl, yx B2⟩
set_option maxRecDepth 100000 in
theorem lawObey_big (n m : Nat) (lim mode A B C D coast fr kind g1 g2 g3 g4 wd ht lv fo : Int) (px : ByteArray) (a br : Option Addr) (c dr : Nat) (w : World) (hn : 1048576 < n) (hm : n ≤ 9223372036854775807) :
    Calls Tryz.prog 3 #[.agg #[.slice a n c, .int .i64 lim, .int .i64 mode, .int .i64 A, .int .i64 B, .int .i64 C, .int .i64 D, .int .i64 coast, .int .i64 fr], .agg #[.int .i64 kind, .int .i64 g1, .int .i64 g2, .int .i64 g3, .int .i64 g4, .slice br m dr, .int .i64 wd, .int .i64 ht, .string px, .int .i64 lv, .int .i64 fo]] w fun e w' => e = .returned (.bool true) ∧ Below w.heap.size w w' := by
  have B0 := yz (below2 w (.cells #[.slice a n c, .int .i64 lim, .int .i64 mode, .int .i64 A, .int .i64 B, .int .i64 C, .int .i64 D, .int .i64 coast, .int .i64 fr] 26) (.cells #[.int .i64 kind, .int .i64 g1, .int .i64 g2, .int .i64 g3, .int .i64 g4, .slice br m dr, .int .i64 wd, .int .i64 ht, .string px, .int .i64 lv, .int .i64 fo] 31))
  go_enter Tryz.func3, Tryz.ntmps3
  go_wp2_with fail
  refine (szTracker_big a n c lim mode A B C D coast fr _ hn hm).mono ?_
  rintro e w1 ⟨rfl, hx⟩
  have B1 := yz (below_call (yx B0) hx)
  clear hx
  go_wp2_with fail
  go_ret
  exact ⟨rfl, yx B1⟩
set_option maxHeartbeats 32000000 in
set_option maxRecDepth 100000 in
theorem lawObey (L : List St) (S : List D3) (lim mode A B C D coast fr kind g1 g2 g3 g4 wd ht lv fo : Int) (px : ByteArray) (a br : Option Addr) (c dr : Nat) (p pc : Addr) (w : World) (hn : L.length ≤ 1048576) (hm2 : S.length ≤ 1048576) (hs : px.size ≤ maxLen) (hz : ¬ szCf (1048576 - (L.length : Int)) S.length px < 0) (hS : Stars w a L L.length) (hD : Dirs w br S S.length) (hE : ErrSky p w) (hEc : ErrCmd pc w) :
    Calls Tryz.prog 3 #[.agg #[.slice a L.length c, .int .i64 lim, .int .i64 mode, .int .i64 A, .int .i64 B, .int .i64 C, .int .i64 D, .int .i64 coast, .int .i64 fr], .agg #[.int .i64 kind, .int .i64 g1, .int .i64 g2, .int .i64 g3, .int .i64 g4, .slice br S.length dr, .int .i64 wd, .int .i64 ht, .string px, .int .i64 lv, .int .i64 fo]] w fun e w' => e = .returned (.bool true) ∧ Below w.heap.size w w' := by
  have HS := yz hS
  have HE := yz hE
  have HEc := yz hEc
  have HD := yz hD
  clear hS hE hD hEc
  have cC := yz (fun W hW => toCommand_any S kind g1 g2 g3 g4 wd ht lv fo px br dr W hm2 hW)
  have cT := yz (fun W hW => toTracker_any L lim mode A B C D coast fr a c W hn hW)
  have cZ := yz (fun W => szCommand_from kind g1 g2 g3 g4 wd ht lv fo px br S.length dr (1048576 - (L.length : Int)) W (by omega) (by omega) (by omega) hs)
  obtain ⟨t2, code, hn2, cS, cR⟩ : ∃ (t2 : Tk) (code : Int), t2.L.length ≤ 1048576 ∧ Hid (∀ (W : World) (b d : Nat), b < W.heap.size → d < W.heap.size → Stars W (some ⟨b, 0, none⟩) L L.length → Dirs W (some ⟨d, 0, none⟩) S S.length → Calls Tryz.prog 7 #[.agg #[.slice (some ⟨b, 0, none⟩) L.length L.length, .int .i64 lim, .int .i64 mode, .int .i64 A, .int .i64 B, .int .i64 C, .int .i64 D, .int .i64 coast, .int .i64 fr], .agg #[.int .i64 kind, .int .i64 g1, .int .i64 g2, .int .i64 g3, .int .i64 g4, .slice (some ⟨d, 0, none⟩) S.length S.length, .int .i64 wd, .int .i64 ht, .string px, .int .i64 lv, .int .i64 fo]] W fun e w' => OutT w' W.heap.size t2 code e ∧ Below W.heap.size W w')
    ∧ Hid (∀ (W : World) (b d : Nat), b < W.heap.size → d < W.heap.size → Stars W (some ⟨b, 0, none⟩) L L.length → Dirs W (some ⟨d, 0, none⟩) S S.length → ErrSky p W → ErrCmd pc W → Calls Tryz.prog 10 #[.agg #[.slice (some ⟨b, 0, none⟩) L.length L.length, .int .i64 lim, .int .i64 mode, .int .i64 A, .int .i64 B, .int .i64 C, .int .i64 D, .int .i64 coast, .int .i64 fr], .agg #[.int .i64 kind, .int .i64 g1, .int .i64 g2, .int .i64 g3, .int .i64 g4, .slice (some ⟨d, 0, none⟩) S.length S.length, .int .i64 wd, .int .i64 ht, .string px, .int .i64 lv, .int .i64 fo]] W fun e w' => OutT w' W.heap.size t2 code e ∧ Below W.heap.size W w') :=
    ⟨obeyT ⟨L, lim, mode, A, B, C, D, coast, fr⟩ ⟨kind, g1, g2, g3, g4, S, wd, ht, px, lv, fo⟩, obeyC ⟨L, lim, mode, A, B, C, D, coast, fr⟩ ⟨kind, g1, g2, g3, g4, S, wd, ht, px, lv, fo⟩, obeyT_len _ _ hn, yz (fun W b d g1' g2' hW hV => specObey_any kind L lim mode A B C D coast fr (some ⟨b, 0, none⟩) L.length S g1 g2 g3 g4 wd ht lv fo px (some ⟨d, 0, none⟩) S.length W hn hW (fun y e => by rw [← Option.some.inj e]; exact g1') hm2 (Nat.le_refl _) (by omega) hV (fun y e => by rw [← Option.some.inj e]; exact g2') hs), yz (fun W b d g1' g2' hW hV hE hEc => implObey_any kind L lim mode A B C D coast fr (some ⟨b, 0, none⟩) L.length S g1 g2 g3 g4 wd ht lv fo px (some ⟨d, 0, none⟩) S.length p pc W hn hW (fun y e => by rw [← Option.some.inj e]; exact g1') hm2 (Nat.le_refl _) (by omega) hV (fun y e => by rw [← Option.some.inj e]; exact g2') (Nat.le_refl _) (by omega) hE hEc hs)⟩
  obtain ⟨L2, lim2, mode2, A2, B2, C2, D2, coast2, fr2⟩ := t2
  unfold OutT at cS cR
  dsimp only at hn2 cS cR
  generalize szCf (1048576 - (L.length : Int)) S.length px = z at *
  generalize S.length = m at *
  generalize L.length = n at *
  have h0 : ¬ (1048576 : Int) - (n : Int) < 0 := by omega
  have B0 := yz (below2 w (.cells #[.slice a n c, .int .i64 lim, .int .i64 mode, .int .i64 A, .int .i64 B, .int .i64 C, .int .i64 D, .int .i64 coast, .int .i64 fr] 26) (.cells #[.int .i64 kind, .int .i64 g1, .int .i64 g2, .int .i64 g3, .int .i64 g4, .slice br m dr, .int .i64 wd, .int .i64 ht, .string px, .int .i64 lv, .int .i64 fo] 31))
  have T0 := yz ((tkAt_new w (.slice a n c) lim mode A B C D coast fr 26).kept (below1 _ (.cells #[.int .i64 kind, .int .i64 g1, .int .i64 g2, .int .i64 g3, .int .i64 g4, .slice br m dr, .int .i64 wd, .int .i64 ht, .string px, .int .i64 lv, .int .i64 fo] 31)))
  have K0 := yz (by simpa using blk_new (w.alloc (.cells #[.slice a n c, .int .i64 lim, .int .i64 mode, .int .i64 A, .int .i64 B, .int .i64 C, .int .i64 D, .int .i64 coast, .int .i64 fr] 26)) [.int .i64 kind, .int .i64 g1, .int .i64 g2, .int .i64 g3, .int .i64 g4, .slice br m dr, .int .i64 wd, .int .i64 ht, .string px, .int .i64 lv, .int .i64 fo] 31 : Blk ((w.alloc (.cells #[.slice a n c, .int .i64 lim, .int .i64 mode, .int .i64 A, .int .i64 B, .int .i64 C, .int .i64 D, .int .i64 coast, .int .i64 fr] 26)).alloc (.cells #[.int .i64 kind, .int .i64 g1, .int .i64 g2, .int .i64 g3, .int .i64 g4, .slice br m dr, .int .i64 wd, .int .i64 ht, .string px, .int .i64 lv, .int .i64 fo] 31)) (w.heap.size + 1) [.int .i64 kind, .int .i64 g1, .int .i64 g2, .int .i64 g3, .int .i64 g4, .slice br m dr, .int .i64 wd, .int .i64 ht, .string px, .int .i64 lv, .int .i64 fo] 31)
  go_enter Tryz.func3, Tryz.ntmps3
  go_wp2_with fail
  refine (szTracker_any a n c lim mode A B C D coast fr _ hn).mono ?_
  rintro e w1 ⟨rfl, hx⟩
  have B1 := yz (below_call (yx B0) hx)
  have T1 := yz ((yx T0).kept hx)
  have K1 := yz ((yx K0).kept hx)
  clear B0 T0 K0
  clear hx
  obtain ⟨k0, k1, k2, k3, k4, k5, k6, k7, k8, k9, k10⟩ := bcs11 (yx K1)
  go_wp2_with fail
  clear k0 k1 k2 k3 k4 k5 k6 k7 k8 k9 k10
  refine (yx cZ _).mono ?_
  rintro e w2 ⟨rfl, hx⟩
  have By := yz (below_call (yx B1) hx)
  have Ty := yz ((yx T1).kept hx)
  have Ky := yz ((yx K1).kept hx)
  clear B1 T1 K1
  clear hx cZ
  go_wp2_with fail
  have CT := yz (show TkAt w2 w.heap.size (.slice a n c) lim mode A B C D coast fr ∧ KcAt w2 (w.heap.size + 1) (.slice br m dr) kind g1 g2 g3 g4 wd ht lv fo px from ⟨yx Ty, (yx Ky).kc⟩)
  go_cut [6] (fun sv wx => PlT wx w2.heap.size sv L2 lim2 mode2 A2 B2 C2 D2 coast2 fr2 code ∧ Below w2.heap.size w2 wx)
  case first =>
    refine wp_region_held_drew (S := (fun w' => (w'.cell? ⟨w.heap.size, 0, none⟩ = some (.slice a n c) ∧ w'.cell? ⟨w.heap.size, 1, none⟩ = some (.int .i64 lim) ∧ w'.cell? ⟨w.heap.size, 2, none⟩ = some (.int .i64 mode) ∧ w'.cell? ⟨w.heap.size, 3, none⟩ = some (.int .i64 A) ∧ w'.cell? ⟨w.heap.size, 4, none⟩ = some (.int .i64 B) ∧ w'.cell? ⟨w.heap.size, 5, none⟩ = some (.int .i64 C) ∧ w'.cell? ⟨w.heap.size, 6, none⟩ = some (.int .i64 D) ∧ w'.cell? ⟨w.heap.size, 7, none⟩ = some (.int .i64 coast) ∧ w'.cell? ⟨w.heap.size, 8, none⟩ = some (.int .i64 fr)) ∧ (w'.cell? ⟨w.heap.size + 1, 0, none⟩ = some (.int .i64 kind) ∧ w'.cell? ⟨w.heap.size + 1, 1, none⟩ = some (.int .i64 g1) ∧ w'.cell? ⟨w.heap.size + 1, 2, none⟩ = some (.int .i64 g2) ∧ w'.cell? ⟨w.heap.size + 1, 3, none⟩ = some (.int .i64 g3) ∧ w'.cell? ⟨w.heap.size + 1, 4, none⟩ = some (.int .i64 g4) ∧ w'.cell? ⟨w.heap.size + 1, 5, none⟩ = some (.slice br m dr) ∧ w'.cell? ⟨w.heap.size + 1, 6, none⟩ = some (.int .i64 wd) ∧ w'.cell? ⟨w.heap.size + 1, 7, none⟩ = some (.int .i64 ht) ∧ w'.cell? ⟨w.heap.size + 1, 8, none⟩ = some (.string px) ∧ w'.cell? ⟨w.heap.size + 1, 9, none⟩ = some (.int .i64 lv) ∧ w'.cell? ⟨w.heap.size + 1, 10, none⟩ = some (.int .i64 fo)))) (by kernel_rfl) ?_ (fun hHeld => ?_)
    · exact yx CT
    refine wpAnyH_take (i := 0) (v := ?_) rfl (by kernel_rfl) (by kernel_rfl) (by kernel_rfl) (fun _ _ _ h => h) (Or.inl ⟨by rfl, ?_⟩) (by assumption) ?_
    rotate_left
    · intro W0 hSw; (try dsimp only at hSw); go_simp <;> with_reducible rfl
    try simp only [Act.put, List.setIfInBounds_toArray, List.set_cons_zero, List.set_cons_succ]
    refine wpAnyH_take (i := 2) (v := ?_) rfl (by kernel_rfl) (by kernel_rfl) (by kernel_rfl) (fun _ _ _ h => h) (Or.inl ⟨by rfl, ?_⟩) (by assumption) ?_
    rotate_left
    · intro W0 hSw; (try dsimp only at hSw); go_simp <;> with_reducible rfl
    try simp only [Act.put, List.setIfInBounds_toArray, List.set_cons_zero, List.set_cons_succ]
    have HW := yz ((Below.refl w2.heap.size w2).drew)
    have HH := yz (keptTC (yx CT) (Below.refl _ _).drew)
    generalize hV : w2.drew = V at HW HH hHeld ⊢
    clear hV
    refine wpAnyH_ready (rs := [1, 5]) (by kernel_rfl) (by simp) ?_
    refine AllReadyH.cons rfl (fun K hK => ?_) (AllReadyH.cons rfl (fun K hK => ?_) AllReadyH.nil)
    · skip
      go_simp
      refine (yx cT _ ((yx HS).kept (below_call (yx By) (yx HW)))).mono ?_
      rintro e V1 ⟨b2, rfl, ho, hb2, hx⟩
      have OT := yz ho
      clear ho hb2
      replace HW := yz (below_call (yx HW) hx)
      replace HH := yz (keptTC (yx HH) hx)
      clear hx
      refine hK.out _ _ (yx HH) (fun hHeld1 => ?_)
      clear hK K hHeld
      refine wpAnyH_ready (rs := [3, 5]) (by kernel_rfl) (by simp) ?_
      refine AllReadyH.cons rfl (fun K hK => ?_) (AllReadyH.cons rfl (fun K hK => ?_) AllReadyH.nil)
      · skip
        go_simp
        refine (yx cC _ ((yx HD).kept (below_call (yx By) (yx HW)))).mono ?_
        rintro e V2 ⟨b3, rfl, ho, hb3, hx⟩
        replace OT := yz ((yx OT).kept hx)
        have OC := yz ho
        clear ho hb3
        replace HW := yz (below_call (yx HW) hx)
        replace HH := yz (keptTC (yx HH) hx)
        clear hx
        refine hK.out _ _ (yx HH) (fun hHeld2 => ?_)
        clear hK K hHeld1
        refine wpAnyH_ready (rs := [4, 5]) (by kernel_rfl) (by simp) ?_
        refine AllReadyH.cons rfl (fun K hK => ?_) (AllReadyH.cons rfl (fun K hK => ?_) AllReadyH.nil)
        · skip
          go_simp
          refine (yx cS _ _ _ (yx OT).lt (yx OC).lt (yx OT).stars (yx OC).dirs).mono ?_
          rintro e V3 ⟨⟨a3, cap3, rfl, hC⟩, hx⟩
          have HC := yz (hC.low (B' := w2.heap.size) (yx HW).size)
          clear hC
          replace HW := yz (below_call (yx HW) hx)
          replace HH := yz (keptTC (yx HH) hx)
          clear hx
          refine hK.out _ _ (yx HH) (fun hHeld3 => ?_)
          clear hK K hHeld2
          refine wpAnyH_ready (rs := [5]) (by kernel_rfl) (by simp) ?_
          refine AllReadyH.cons rfl (fun K hK => ?_) AllReadyH.nil
          go_simp
          generalize hU : (World.alloc _ (.cells #[.slice none 0 0, .int .i64 0, .int .i64 0, .int .i64 0, .int .i64 0, .int .i64 0, .int .i64 0, .int .i64 0, .int .i64 0, .int .i64 0] 39)) = U4
          have hx : Below _ _ U4 := hU ▸ below1 _ _
          have HP : Hid (ResvT U4 _) := yz (hU ▸ resvT_new _ _)
          have HBL := yz (yx HW).size
          have HNE := yz (fun x e => Nat.ne_of_lt ((yx HC).block x e).2)
          replace HC := yz ((yx HC).kept hx)
          replace HW := yz (below_call (yx HW) hx)
          replace HH := yz (keptTC (yx HH) hx)
          clear hx hU
          refine hK.out _ _ (yx HH) (fun hHeld4 => ?_)
          clear hK K hHeld3
          refine wpAnyH_ready (rs := [6]) (by kernel_rfl) (by simp) ?_
          refine AllReadyH.cons rfl (fun K hK => ?_) AllReadyH.nil
          obtain ⟨⟨⟨r0, r1, r2, r3, r4, r5, r6, r7, r8⟩, r9⟩, hfz⟩ := yx HP
          have f0 := hfz 0
          have f1 := hfz 1
          have f2 := hfz 2
          have f3 := hfz 3
          have f4 := hfz 4
          have f5 := hfz 5
          have f6 := hfz 6
          have f7 := hfz 7
          have f8 := hfz 8
          have f9 := hfz 9
          go_simp
          clear r0 r1 r2 r3 r4 r5 r6 r7 r8 r9 f0 f1 f2 f3 f4 f5 f6 f7 f8 f9 hfz
          refine hK.out _ _ ?_ (fun hHeldE => ?_)
          · exact keptTC (yx CT) (belT (yx HW) (yx HBL) _ _ _ _ _ _ _ _ _ _)
          refine wpAnyH_done (by kernel_rfl) ?_ _
          clear hHeldE
          go_wp2_with fail
          go_meet
          exact ⟨plT_set (yx HP) (yx HC) (yx HBL) (yx HNE), belT (yx HW) (yx HBL) _ _ _ _ _ _ _ _ _ _⟩
        · skip
          go_simp
          generalize hU : (World.alloc _ (.cells #[.slice none 0 0, .int .i64 0, .int .i64 0, .int .i64 0, .int .i64 0, .int .i64 0, .int .i64 0, .int .i64 0, .int .i64 0, .int .i64 0] 39)) = U3
          have hx : Below _ _ U3 := hU ▸ below1 _ _
          have HP : Hid (ResvT U3 _) := yz (hU ▸ resvT_new _ _)
          have HBL := yz (yx HW).size
          try replace OT := yz ((yx OT).kept hx)
          try replace OC := yz ((yx OC).kept hx)
          replace HW := yz (below_call (yx HW) hx)
          replace HH := yz (keptTC (yx HH) hx)
          clear hx hU
          refine hK.out _ _ (yx HH) (fun hHeld3 => ?_)
          clear hK K hHeld2
          refine wpAnyH_ready (rs := [4]) (by kernel_rfl) (by simp) ?_
          refine AllReadyH.cons rfl (fun K hK => ?_) AllReadyH.nil
          go_simp
          refine (yx cS _ _ _ (yx OT).lt (yx OC).lt (yx OT).stars (yx OC).dirs).mono ?_
          rintro e V4 ⟨⟨a3, cap3, rfl, hC⟩, hx⟩
          have HNE := yz (fun x e => (Nat.ne_of_lt (Nat.lt_of_lt_of_le (yx HP).1.lt (hC.block x e).1)).symm)
          have HC := yz (hC.low (B' := w2.heap.size) (yx HW).size)
          clear hC
          replace HW := yz (below_call (yx HW) hx)
          replace HH := yz (keptTC (yx HH) hx)
          replace HP := yz (keptT (yx HP) hx)
          clear hx
          refine hK.out _ _ (yx HH) (fun hHeld4 => ?_)
          clear hK K hHeld3
          refine wpAnyH_ready (rs := [6]) (by kernel_rfl) (by simp) ?_
          refine AllReadyH.cons rfl (fun K hK => ?_) AllReadyH.nil
          obtain ⟨⟨⟨r0, r1, r2, r3, r4, r5, r6, r7, r8⟩, r9⟩, hfz⟩ := yx HP
          have f0 := hfz 0
          have f1 := hfz 1
          have f2 := hfz 2
          have f3 := hfz 3
          have f4 := hfz 4
          have f5 := hfz 5
          have f6 := hfz 6
          have f7 := hfz 7
          have f8 := hfz 8
          have f9 := hfz 9
          go_simp
          clear r0 r1 r2 r3 r4 r5 r6 r7 r8 r9 f0 f1 f2 f3 f4 f5 f6 f7 f8 f9 hfz
          refine hK.out _ _ ?_ (fun hHeldE => ?_)
          · exact keptTC (yx CT) (belT (yx HW) (yx HBL) _ _ _ _ _ _ _ _ _ _)
          refine wpAnyH_done (by kernel_rfl) ?_ _
          clear hHeldE
          go_wp2_with fail
          go_meet
          exact ⟨plT_set (yx HP) (yx HC) (yx HBL) (yx HNE), belT (yx HW) (yx HBL) _ _ _ _ _ _ _ _ _ _⟩
      · skip
        go_simp
        generalize hU : (World.alloc _ (.cells #[.slice none 0 0, .int .i64 0, .int .i64 0, .int .i64 0, .int .i64 0, .int .i64 0, .int .i64 0, .int .i64 0, .int .i64 0, .int .i64 0] 39)) = U2
        have hx : Below _ _ U2 := hU ▸ below1 _ _
        have HP : Hid (ResvT U2 _) := yz (hU ▸ resvT_new _ _)
        have HBL := yz (yx HW).size
        try replace OT := yz ((yx OT).kept hx)
        try replace OC := yz ((yx OC).kept hx)
        replace HW := yz (below_call (yx HW) hx)
        replace HH := yz (keptTC (yx HH) hx)
        clear hx hU
        refine hK.out _ _ (yx HH) (fun hHeld2 => ?_)
        clear hK K hHeld1
        refine wpAnyH_ready (rs := [3]) (by kernel_rfl) (by simp) ?_
        refine AllReadyH.cons rfl (fun K hK => ?_) AllReadyH.nil
        go_simp
        refine (yx cC _ ((yx HD).kept (below_call (yx By) (yx HW)))).mono ?_
        rintro e V3 ⟨b3, rfl, ho, hb3, hx⟩
        replace OT := yz ((yx OT).kept hx)
        have OC := yz ho
        clear ho hb3
        replace HW := yz (below_call (yx HW) hx)
        replace HH := yz (keptTC (yx HH) hx)
        replace HP := yz (keptT (yx HP) hx)
        clear hx
        refine hK.out _ _ (yx HH) (fun hHeld3 => ?_)
        clear hK K hHeld2
        refine wpAnyH_ready (rs := [4]) (by kernel_rfl) (by simp) ?_
        refine AllReadyH.cons rfl (fun K hK => ?_) AllReadyH.nil
        go_simp
        refine (yx cS _ _ _ (yx OT).lt (yx OC).lt (yx OT).stars (yx OC).dirs).mono ?_
        rintro e V4 ⟨⟨a3, cap3, rfl, hC⟩, hx⟩
        have HNE := yz (fun x e => (Nat.ne_of_lt (Nat.lt_of_lt_of_le (yx HP).1.lt (hC.block x e).1)).symm)
        have HC := yz (hC.low (B' := w2.heap.size) (yx HW).size)
        clear hC
        replace HW := yz (below_call (yx HW) hx)
        replace HH := yz (keptTC (yx HH) hx)
        replace HP := yz (keptT (yx HP) hx)
        clear hx
        refine hK.out _ _ (yx HH) (fun hHeld4 => ?_)
        clear hK K hHeld3
        refine wpAnyH_ready (rs := [6]) (by kernel_rfl) (by simp) ?_
        refine AllReadyH.cons rfl (fun K hK => ?_) AllReadyH.nil
        obtain ⟨⟨⟨r0, r1, r2, r3, r4, r5, r6, r7, r8⟩, r9⟩, hfz⟩ := yx HP
        have f0 := hfz 0
        have f1 := hfz 1
        have f2 := hfz 2
        have f3 := hfz 3
        have f4 := hfz 4
        have f5 := hfz 5
        have f6 := hfz 6
        have f7 := hfz 7
        have f8 := hfz 8
        have f9 := hfz 9
        go_simp
        clear r0 r1 r2 r3 r4 r5 r6 r7 r8 r9 f0 f1 f2 f3 f4 f5 f6 f7 f8 f9 hfz
        refine hK.out _ _ ?_ (fun hHeldE => ?_)
        · exact keptTC (yx CT) (belT (yx HW) (yx HBL) _ _ _ _ _ _ _ _ _ _)
        refine wpAnyH_done (by kernel_rfl) ?_ _
        clear hHeldE
        go_wp2_with fail
        go_meet
        exact ⟨plT_set (yx HP) (yx HC) (yx HBL) (yx HNE), belT (yx HW) (yx HBL) _ _ _ _ _ _ _ _ _ _⟩
    · skip
      go_simp
      generalize hU : (World.alloc _ (.cells #[.slice none 0 0, .int .i64 0, .int .i64 0, .int .i64 0, .int .i64 0, .int .i64 0, .int .i64 0, .int .i64 0, .int .i64 0, .int .i64 0] 39)) = U1
      have hx : Below _ _ U1 := hU ▸ below1 _ _
      have HP : Hid (ResvT U1 _) := yz (hU ▸ resvT_new _ _)
      have HBL := yz (yx HW).size
      replace HW := yz (below_call (yx HW) hx)
      replace HH := yz (keptTC (yx HH) hx)
      clear hx hU
      refine hK.out _ _ (yx HH) (fun hHeld1 => ?_)
      clear hK K hHeld
      refine wpAnyH_ready (rs := [1]) (by kernel_rfl) (by simp) ?_
      refine AllReadyH.cons rfl (fun K hK => ?_) AllReadyH.nil
      go_simp
      refine (yx cT _ ((yx HS).kept (below_call (yx By) (yx HW)))).mono ?_
      rintro e V2 ⟨b2, rfl, ho, hb2, hx⟩
      have OT := yz ho
      clear ho hb2
      replace HW := yz (below_call (yx HW) hx)
      replace HH := yz (keptTC (yx HH) hx)
      replace HP := yz (keptT (yx HP) hx)
      clear hx
      refine hK.out _ _ (yx HH) (fun hHeld2 => ?_)
      clear hK K hHeld1
      refine wpAnyH_ready (rs := [3]) (by kernel_rfl) (by simp) ?_
      refine AllReadyH.cons rfl (fun K hK => ?_) AllReadyH.nil
      go_simp
      refine (yx cC _ ((yx HD).kept (below_call (yx By) (yx HW)))).mono ?_
      rintro e V3 ⟨b3, rfl, ho, hb3, hx⟩
      replace OT := yz ((yx OT).kept hx)
      have OC := yz ho
      clear ho hb3
      replace HW := yz (below_call (yx HW) hx)
      replace HH := yz (keptTC (yx HH) hx)
      replace HP := yz (keptT (yx HP) hx)
      clear hx
      refine hK.out _ _ (yx HH) (fun hHeld3 => ?_)
      clear hK K hHeld2
      refine wpAnyH_ready (rs := [4]) (by kernel_rfl) (by simp) ?_
      refine AllReadyH.cons rfl (fun K hK => ?_) AllReadyH.nil
      go_simp
      refine (yx cS _ _ _ (yx OT).lt (yx OC).lt (yx OT).stars (yx OC).dirs).mono ?_
      rintro e V4 ⟨⟨a3, cap3, rfl, hC⟩, hx⟩
      have HNE := yz (fun x e => (Nat.ne_of_lt (Nat.lt_of_lt_of_le (yx HP).1.lt (hC.block x e).1)).symm)
      have HC := yz (hC.low (B' := w2.heap.size) (yx HW).size)
      clear hC
      replace HW := yz (below_call (yx HW) hx)
      replace HH := yz (keptTC (yx HH) hx)
      replace HP := yz (keptT (yx HP) hx)
      clear hx
      refine hK.out _ _ (yx HH) (fun hHeld4 => ?_)
      clear hK K hHeld3
      refine wpAnyH_ready (rs := [6]) (by kernel_rfl) (by simp) ?_
      refine AllReadyH.cons rfl (fun K hK => ?_) AllReadyH.nil
      obtain ⟨⟨⟨r0, r1, r2, r3, r4, r5, r6, r7, r8⟩, r9⟩, hfz⟩ := yx HP
      have f0 := hfz 0
      have f1 := hfz 1
      have f2 := hfz 2
      have f3 := hfz 3
      have f4 := hfz 4
      have f5 := hfz 5
      have f6 := hfz 6
      have f7 := hfz 7
      have f8 := hfz 8
      have f9 := hfz 9
      go_simp
      clear r0 r1 r2 r3 r4 r5 r6 r7 r8 r9 f0 f1 f2 f3 f4 f5 f6 f7 f8 f9 hfz
      refine hK.out _ _ ?_ (fun hHeldE => ?_)
      · exact keptTC (yx CT) (belT (yx HW) (yx HBL) _ _ _ _ _ _ _ _ _ _)
      refine wpAnyH_done (by kernel_rfl) ?_ _
      clear hHeldE
      go_wp2_with fail
      go_meet
      exact ⟨plT_set (yx HP) (yx HC) (yx HBL) (yx HNE), belT (yx HW) (yx HBL) _ _ _ _ _ _ _ _ _ _⟩
  case rest =>
  obtain ⟨⟨wb, a3, cap3, rfl, hO, hC, hN, hL⟩, hx⟩ := hcut
  clear CT
  have C3 := yz hC
  have W3 := yz hO
  have B3 := yz (below_call (yx By) hx)
  have T3 := yz ((yx Ty).kept hx)
  have K3 := yz ((yx Ky).kept hx)
  clear By Ty Ky
  clear hx hC hO hN hL
  generalize hwe : wc = V3 at C3 B3 T3 K3 W3 ⊢
  clear hwe
  obtain ⟨q0, q1, q2, q3, q4, q5, q6, q7, q8⟩ := yx T3
  go_wp2_with fail
  clear q0 q1 q2 q3 q4 q5 q6 q7 q8
  refine (yx cT _ ((yx HS).kept (yx B3))).mono ?_
  rintro e w4 ⟨b4, rfl, ho, hb4, hx⟩
  have Z4 := below1 w4 (.cells #[.slice (some ⟨b4, 0, none⟩) n n, .int .i64 lim, .int .i64 mode, .int .i64 A, .int .i64 B, .int .i64 C, .int .i64 D, .int .i64 coast, .int .i64 fr] 37)
  have O4 := yz (ho.kept Z4)
  have B4 := yz (below_call (below_call (yx B3) hx) Z4)
  have T4 := yz (((yx T3).kept hx).kept Z4)
  have K4 := yz (((yx K3).kept hx).kept Z4)
  have X4 := yz (tkAt_new w4 (.slice (some ⟨b4, 0, none⟩) n n) lim mode A B C D coast fr 37)
  have W4 := yz (((yx W3).kept hx).kept Z4)
  have C4 := yz (((yx C3).stars.kept hx).kept Z4)
  have hr3 : ∀ x, a3 = some x → x.block < b4 := fun x e => by have := ((yx C3).block x e).2; omega
  have hwb : wb < b4 := by have := (yx W3).lt; omega
  have hbl : b4 < w4.heap.size := ho.lt
  have hwl : w.heap.size < b4 := by have := (yx T3).lt; omega
  have hwk : w.heap.size + 1 < b4 := by have := (yx K3).lt; omega
  clear hx ho hb4 B3 T3 K3 Z4 W3 C3
  obtain ⟨k0, k1, k2, k3, k4, k5, k6, k7, k8, k9, k10⟩ := bcs11 (yx K4)
  go_wp2_with fail
  clear k0 k1 k2 k3 k4 k5 k6 k7 k8 k9 k10
  generalize hV4 : w4.alloc (.cells #[.slice (some ⟨b4, 0, none⟩) n n, .int .i64 lim, .int .i64 mode, .int .i64 A, .int .i64 B, .int .i64 C, .int .i64 D, .int .i64 coast, .int .i64 fr] 37) = V4z at *
  generalize hx4 : w4.heap.size = xb at *
  clear hV4 hx4
  have hxz : xb < V4z.heap.size := (yx X4).lt
  refine (yx cC _ ((yx HD).kept (yx B4))).mono ?_
  rintro e w4b ⟨d4, rfl, ho, hd4, hx⟩
  have Z4 := below1 w4b (.cells #[.int .i64 kind, .int .i64 g1, .int .i64 g2, .int .i64 g3, .int .i64 g4, .slice (some ⟨d4, 0, none⟩) m m, .int .i64 wd, .int .i64 ht, .string px, .int .i64 lv, .int .i64 fo] 45)
  have P4 := yz (ho.kept Z4)
  have hdl : d4 < w4b.heap.size := ho.lt
  have Y4 := yz (blk_new w4b [.int .i64 kind, .int .i64 g1, .int .i64 g2, .int .i64 g3, .int .i64 g4, .slice (some ⟨d4, 0, none⟩) m m, .int .i64 wd, .int .i64 ht, .string px, .int .i64 lv, .int .i64 fo] 45)
  replace O4 := yz (((yx O4).kept hx).kept Z4)
  replace B4 := yz (below_call (below_call (yx B4) hx) Z4)
  replace T4 := yz (((yx T4).kept hx).kept Z4)
  replace K4 := yz (((yx K4).kept hx).kept Z4)
  replace X4 := yz (((yx X4).kept hx).kept Z4)
  replace W4 := yz (((yx W4).kept hx).kept Z4)
  replace C4 := yz (((yx C4).kept hx).kept Z4)
  clear ho hx Z4
  obtain ⟨q0, q1, q2, q3, q4, q5, q6, q7, q8⟩ := yx X4
  obtain ⟨k0, k1, k2, k3, k4, k5, k6, k7, k8, k9, k10⟩ := bcs11 (yx Y4)
  go_wp2_with fail
  clear q0 q1 q2 q3 q4 q5 q6 q7 q8 k0 k1 k2 k3 k4 k5 k6 k7 k8 k9 k10
  generalize hV4 : w4b.alloc (.cells #[.int .i64 kind, .int .i64 g1, .int .i64 g2, .int .i64 g3, .int .i64 g4, .slice (some ⟨d4, 0, none⟩) m m, .int .i64 wd, .int .i64 ht, .string px, .int .i64 lv, .int .i64 fo] 45) = V4 at *
  generalize hx4 : w4b.heap.size = yb at *
  clear hV4 hx4
  have hd4b : xb < d4 := by omega
  have hybV : yb < V4.heap.size := (yx Y4).lt
  refine (yx cR _ b4 d4 (yx O4).lt (yx P4).lt (yx O4).stars (yx P4).dirs ((yx HE).kept (yx B4)) ((yx HEc).kept (yx B4))).mono ?_
  rintro e w5 ⟨⟨a5, cap5, rfl, hC⟩, hx⟩
  have Z5 := below1 w5 (.cells #[.slice a5 L2.length cap5, .int .i64 lim2, .int .i64 mode2, .int .i64 A2, .int .i64 B2, .int .i64 C2, .int .i64 D2, .int .i64 coast2, .int .i64 fr2, .int .i64 code] 39)
  have C5 := yz (hC.kept Z5)
  have O5 := yz (((yx O4).kept hx).kept Z5)
  have P5 := yz (((yx P4).kept hx).kept Z5)
  have B5 := yz (below_call (below_call (yx B4) hx) Z5)
  have T5 := yz (((yx T4).kept hx).kept Z5)
  have K5 := yz (((yx K4).kept hx).kept Z5)
  have X5 := yz (((yx X4).kept hx).kept Z5)
  have Y5 := yz (((yx Y4).kept hx).kept Z5)
  have W5 := yz (((yx W4).kept hx).kept Z5)
  have D5 := yz (((yx C4).kept hx).kept Z5)
  have G5 := yz (tkO_new w5 (.slice a5 L2.length cap5) lim2 mode2 A2 B2 C2 D2 coast2 fr2 code 39)
  have hxb : xb < V4.heap.size := (yx X4).lt
  have hb4V : b4 < V4.heap.size := (yx O4).lt
  have hd4V : d4 < V4.heap.size := (yx P4).lt
  have hgb : V4.heap.size ≤ w5.heap.size := hx.size
  have hr5 : ∀ x, a5 = some x → V4.heap.size ≤ x.block ∧ x.block < w5.heap.size := fun x e => hC.block x e
  clear hx hC O4 B4 T4 K4 X4 Y4 W4 C4 P4 Z5
  obtain ⟨⟨g0, g1, g2, g3, g4, g5, g6, g7, g8⟩, g9⟩ := yx G5
  obtain ⟨⟨q0, q1, q2, q3, q4, q5, q6, q7, q8⟩, q9⟩ := yx W5
  go_wp2_with fail
  clear g0 g1 g2 g3 g4 g5 g6 g7 g8 g9 q0 q1 q2 q3 q4 q5 q6 q7 q8 q9
  generalize hV5 : w5.alloc (.cells #[.slice a5 L2.length cap5, .int .i64 lim2, .int .i64 mode2, .int .i64 A2, .int .i64 B2, .int .i64 C2, .int .i64 D2, .int .i64 coast2, .int .i64 fr2, .int .i64 code] 39) = V5 at *
  generalize hg5 : w5.heap.size = gb at *
  clear hV5 hg5
  refine (eqTrackerOut_same L2 L2.length lim2 mode2 A2 B2 C2 D2 coast2 fr2 code a5 a3 cap5 cap3 _ hn2 (yx C5).stars (yx D5)).mono ?_
  rintro e w6 ⟨rfl, hx⟩
  have C6 := yz ((yx C5).kept hx)
  have O6 := yz ((yx O5).kept hx)
  have P6 := yz ((yx P5).kept hx)
  have B6 := yz (below_call (yx B5) hx)
  have T6 := yz ((yx T5).kept hx)
  have K6 := yz ((yx K5).kept hx)
  have X6 := yz ((yx X5).kept hx)
  have Y6 := yz ((yx Y5).kept hx)
  have W6 := yz ((yx W5).kept hx)
  have D6 := yz ((yx D5).kept hx)
  have G6 := yz ((yx G5).kept hx)
  clear C5 O5 P5 B5 T5 K5 X5 Y5 W5 D5 G5
  clear hx
  go_wp2_with fail
  go_region_held (fun w' => ((w'.cell? ⟨w.heap.size, 0, none⟩ = some (.slice a n c) ∧ w'.cell? ⟨w.heap.size, 1, none⟩ = some (.int .i64 lim) ∧ w'.cell? ⟨w.heap.size, 2, none⟩ = some (.int .i64 mode) ∧ w'.cell? ⟨w.heap.size, 3, none⟩ = some (.int .i64 A) ∧ w'.cell? ⟨w.heap.size, 4, none⟩ = some (.int .i64 B) ∧ w'.cell? ⟨w.heap.size, 5, none⟩ = some (.int .i64 C) ∧ w'.cell? ⟨w.heap.size, 6, none⟩ = some (.int .i64 D) ∧ w'.cell? ⟨w.heap.size, 7, none⟩ = some (.int .i64 coast) ∧ w'.cell? ⟨w.heap.size, 8, none⟩ = some (.int .i64 fr)) ∧ (w'.cell? ⟨xb, 0, none⟩ = some (.slice (some ⟨b4, 0, none⟩) n n) ∧ w'.cell? ⟨xb, 1, none⟩ = some (.int .i64 lim) ∧ w'.cell? ⟨xb, 2, none⟩ = some (.int .i64 mode) ∧ w'.cell? ⟨xb, 3, none⟩ = some (.int .i64 A) ∧ w'.cell? ⟨xb, 4, none⟩ = some (.int .i64 B) ∧ w'.cell? ⟨xb, 5, none⟩ = some (.int .i64 C) ∧ w'.cell? ⟨xb, 6, none⟩ = some (.int .i64 D) ∧ w'.cell? ⟨xb, 7, none⟩ = some (.int .i64 coast) ∧ w'.cell? ⟨xb, 8, none⟩ = some (.int .i64 fr))) ∧ Below w6.heap.size w6 w') (first | (with_reducible exact holdTT (yx T6) (yx X6) (Below.refl _ _).drew) | (with_reducible exact holdTT (yx T6) (yx X6) (by assumption))) (first | (go_at_call 8; (with_reducible refine (yx cT _ ((yx HS).kept (below_call (yx B6) (And.right (by assumption))))).mono ?_); rintro e wn ⟨b7, rfl, ho, hb7, hx⟩; have OT := yz ho; clear ho hb7; have hw : Below w6.heap.size w6 wn := (by first | (with_reducible exact stepTkZ hx (by assumption)) | (with_reducible exact stepTkD hx (by assumption)) | (with_reducible exact (Below.refl _ _).drew.trans (hx.mono (Nat.le_refl _))))) | (go_at_call 12; (with_reducible refine (eqTracker_same L n lim mode A B C D coast fr _ _ _ _ _ hn ((yx O6).stars.kept (And.right (by assumption))) (yx OT).stars).mono ?_); rintro e wn ⟨rfl, hx⟩; have hw : Below w6.heap.size w6 wn := (by first | (with_reducible exact stepTkZ hx (by assumption)) | (with_reducible exact stepTkD hx (by assumption)))))
  obtain ⟨w7, hw7⟩ : ∃ x, x = wn := ⟨_, rfl⟩
  subst hw7
  have C7 := yz ((yx C6).kept hw)
  have O7 := yz ((yx O6).kept hw)
  have P7 := yz ((yx P6).kept hw)
  have B7 := yz (below_call (yx B6) hw)
  have T7 := yz ((yx T6).kept hw)
  have K7 := yz ((yx K6).kept hw)
  have X7 := yz ((yx X6).kept hw)
  have Y7 := yz ((yx Y6).kept hw)
  have W7 := yz ((yx W6).kept hw)
  have D7 := yz ((yx D6).kept hw)
  have G7 := yz ((yx G6).kept hw)
  clear C6 O6 P6 B6 T6 K6 X6 Y6 W6 D6 G6
  clear OT hw
  go_wp2_with fail
  go_region_held (fun w' => ((w'.cell? ⟨w.heap.size + 1, 0, none⟩ = some (.int .i64 kind) ∧ w'.cell? ⟨w.heap.size + 1, 1, none⟩ = some (.int .i64 g1) ∧ w'.cell? ⟨w.heap.size + 1, 2, none⟩ = some (.int .i64 g2) ∧ w'.cell? ⟨w.heap.size + 1, 3, none⟩ = some (.int .i64 g3) ∧ w'.cell? ⟨w.heap.size + 1, 4, none⟩ = some (.int .i64 g4) ∧ w'.cell? ⟨w.heap.size + 1, 5, none⟩ = some (.slice br m dr) ∧ w'.cell? ⟨w.heap.size + 1, 6, none⟩ = some (.int .i64 wd) ∧ w'.cell? ⟨w.heap.size + 1, 7, none⟩ = some (.int .i64 ht) ∧ w'.cell? ⟨w.heap.size + 1, 8, none⟩ = some (.string px) ∧ w'.cell? ⟨w.heap.size + 1, 9, none⟩ = some (.int .i64 lv) ∧ w'.cell? ⟨w.heap.size + 1, 10, none⟩ = some (.int .i64 fo)) ∧ (w'.cell? ⟨yb, 0, none⟩ = some (.int .i64 kind) ∧ w'.cell? ⟨yb, 1, none⟩ = some (.int .i64 g1) ∧ w'.cell? ⟨yb, 2, none⟩ = some (.int .i64 g2) ∧ w'.cell? ⟨yb, 3, none⟩ = some (.int .i64 g3) ∧ w'.cell? ⟨yb, 4, none⟩ = some (.int .i64 g4) ∧ w'.cell? ⟨yb, 5, none⟩ = some (.slice (some ⟨d4, 0, none⟩) m m) ∧ w'.cell? ⟨yb, 6, none⟩ = some (.int .i64 wd) ∧ w'.cell? ⟨yb, 7, none⟩ = some (.int .i64 ht) ∧ w'.cell? ⟨yb, 8, none⟩ = some (.string px) ∧ w'.cell? ⟨yb, 9, none⟩ = some (.int .i64 lv) ∧ w'.cell? ⟨yb, 10, none⟩ = some (.int .i64 fo))) ∧ Below w7.heap.size w7 w') (first | (with_reducible exact holdCC (yx K7) (yx Y7) (Below.refl _ _).drew) | (with_reducible exact holdCC (yx K7) (yx Y7) (by assumption))) (first | (go_at_call 9; (with_reducible refine (yx cC _ ((yx HD).kept (below_call (yx B7) (And.right (by assumption))))).mono ?_); rintro e wn ⟨b6, rfl, ho, hb6, hx⟩; have OT := yz ho; clear ho hb6; have hw : Below w7.heap.size w7 wn := (by first | (with_reducible exact stepCmZ hx (by assumption)) | (with_reducible exact stepCmD hx (by assumption)) | (with_reducible exact (Below.refl _ _).drew.trans (hx.mono (Nat.le_refl _))))) | (go_at_call 13; (with_reducible refine (eqCommand_same S m kind g1 g2 g3 g4 wd ht lv fo px _ _ _ _ _ hm2 ((yx P7).dirs.kept (And.right (by assumption))) (yx OT).dirs).mono ?_); rintro e wn ⟨rfl, hx⟩; have hw : Below w7.heap.size w7 wn := (by first | (with_reducible exact stepCmZ hx (by assumption)) | (with_reducible exact stepCmD hx (by assumption)))))
  replace C7 := yz ((yx C7).kept hw)
  replace O7 := yz ((yx O7).kept hw)
  replace P7 := yz ((yx P7).kept hw)
  replace B7 := yz (below_call (yx B7) hw)
  replace T7 := yz ((yx T7).kept hw)
  replace K7 := yz ((yx K7).kept hw)
  replace X7 := yz ((yx X7).kept hw)
  replace Y7 := yz ((yx Y7).kept hw)
  replace W7 := yz ((yx W7).kept hw)
  replace D7 := yz ((yx D7).kept hw)
  replace G7 := yz ((yx G7).kept hw)
  clear OT hw
  obtain ⟨q0, q1, q2, q3, q4, q5, q6, q7, q8⟩ := yx X7
  go_wp2_with fail
  clear q0 q1 q2 q3 q4 q5 q6 q7 q8
  refine (markTracker_any n lim mode A B C D coast fr (some ⟨b4, 0, none⟩) n (some b4) _ hn (yx O7).row).mono ?_
  rintro e w8 ⟨rfl, hm, hg⟩
  have B8 := yz (belowR (yx B7) hg (yx B7).size (fun g e => by cases e; omega))
  have T8 := yz ((yx T7).grown hg (fun e => by have := Option.some.inj e; omega))
  have K8 := yz ((yx K7).grownO hg (fun e => by have := Option.some.inj e; omega))
  have Y8 := yz ((yx Y7).grownO hg (fun e => by have := Option.some.inj e; omega))
  have W8 := yz ((yx W7).grown hg (fun e => by have := Option.some.inj e; omega))
  have D8 := yz ((yx D7).grown hg (fun x g e e' => by have := hr3 x e; cases e'; omega))
  have C8 := yz ((yx C7).grown hg (fun g e => by cases e; exact hb4V))
  have G8 := yz ((yx G7).grown hg (fun e => by have := Option.some.inj e; omega))
  have P8 := yz ((yx P7).grownD hg (fun e => by have := Option.some.inj e; omega))
  clear hm hg B7 T7 K7 Y7 W7 D7 C7 G7 O7 X7 P7
  obtain ⟨k0, k1, k2, k3, k4, k5, k6, k7, k8, k9, k10⟩ := bcs11 (yx Y8)
  go_wp2_with fail
  clear k0 k1 k2 k3 k4 k5 k6 k7 k8 k9 k10
  refine (markCommand_from S m d4 kind g1 g2 g3 g4 wd ht lv fo px (1 + (n : Int) * 4) _ hm2 (by omega) (by omega) (yx P8)).mono ?_
  rintro e w8b ⟨rfl, hg⟩
  replace B8 := yz (belowR (yx B8) hg (yx B8).size (fun g e => by cases e; omega))
  replace T8 := yz ((yx T8).grown hg (fun e => by have := Option.some.inj e; omega))
  replace K8 := yz ((yx K8).grownO hg (fun e => by have := Option.some.inj e; omega))
  replace W8 := yz ((yx W8).grown hg (fun e => by have := Option.some.inj e; omega))
  replace D8 := yz ((yx D8).grown hg (fun x g e e' => by have := hr3 x e; cases e'; omega))
  replace C8 := yz ((yx C8).grown hg (fun g e => by cases e; exact hd4V))
  replace G8 := yz ((yx G8).grown hg (fun e => by have := Option.some.inj e; omega))
  clear hg P8 Y8
  obtain ⟨K1', hK1⟩ : ∃ K1 : Int, 1 + (n : Int) * 4 + (m : Int) * 3 = K1 := ⟨_, rfl⟩
  have hk0 : ¬ K1' < 0 := by omega
  rw [hK1]
  clear hK1
  obtain ⟨⟨g0, g1, g2, g3, g4, g5, g6, g7, g8⟩, g9⟩ := yx G8
  obtain ⟨⟨q0, q1, q2, q3, q4, q5, q6, q7, q8⟩, q9⟩ := yx W8
  go_wp2_with fail
  clear g0 g1 g2 g3 g4 g5 g6 g7 g8 g9 q0 q1 q2 q3 q4 q5 q6 q7 q8 q9
  refine (eqTrackerOut_same L2 L2.length lim2 mode2 A2 B2 C2 D2 coast2 fr2 code a5 a3 cap5 cap3 _ hn2 (yx C8).stars (yx D8)).mono ?_
  rintro e w9 ⟨rfl, hx⟩
  have C9 := yz ((yx C8).kept hx)
  have B9 := yz (below_call (yx B8) hx)
  have T9 := yz ((yx T8).kept hx)
  have K9 := yz ((yx K8).kept hx)
  have W9 := yz ((yx W8).kept hx)
  have D9 := yz ((yx D8).kept hx)
  have G9 := yz ((yx G8).kept hx)
  clear C8 B8 T8 K8 W8 D8 G8
  clear hx
  obtain ⟨⟨g0, g1, g2, g3, g4, g5, g6, g7, g8⟩, g9⟩ := yx G9
  go_wp2_with fail
  clear g0 g1 g2 g3 g4 g5 g6 g7 g8 g9
  obtain ⟨row, hrow, hrb⟩ := (yx C9).row
  have hrow2 : ∀ g, row = some g → V4.heap.size ≤ g ∧ g < gb := fun g e => by
    rcases hrow with ⟨_, h⟩ | ⟨g', f, h1, h2, _⟩
    · rw [h] at e; cases e
    · rw [h2] at e
      obtain rfl := Option.some.inj e
      exact hr5 _ h1
  refine (markTrackerOut_any L2.length lim2 mode2 A2 B2 C2 D2 coast2 fr2 code a5 cap5 row _ hn2 hrow).mono ?_
  rintro e wa ⟨rfl, hm, hg⟩
  have Ba := yz (belowR (yx B9) hg (yx B9).size (fun g e => by have := hrow2 g e; omega))
  have Ta := yz ((yx T9).grown hg (fun e => by have := hrow2 _ e.symm; omega))
  have Ka := yz ((yx K9).grownO hg (fun e => by have := hrow2 _ e.symm; omega))
  have Wa := yz ((yx W9).grown hg (fun e => by have := hrow2 _ e.symm; omega))
  have Da := yz ((yx D9).grown hg (fun x g e e' => by have := hr3 x e; have := hrow2 g e'; omega))
  have Ga := yz ((yx G9).grown hg (fun e => by have := hrow2 _ e.symm; omega))
  have Ma := yz hm
  clear hm hg B9 T9 K9 W9 D9 C9 G9 hrow
  obtain ⟨K2', hK2⟩ : ∃ K2 : Int, 1 + (L2.length : Int) * 4 = K2 := ⟨_, rfl⟩
  have hk2 : ¬ K2' < 0 := by omega
  have cH : Hid (∀ W : World, Mkd W a5 L2.length row → Calls Tryz.prog 17 #[.agg #[.slice a5 L2.length cap5, .int .i64 lim2, .int .i64 mode2, .int .i64 A2, .int .i64 B2, .int .i64 C2, .int .i64 D2, .int .i64 coast2, .int .i64 fr2, .int .i64 code], .int .i64 1] W fun e w' => e = .returned (.int .i64 K2') ∧ Below W.heap.size W w') := yz (fun W h => by rw [← hK2]; exact heldTrackerOut_any L2.length lim2 mode2 A2 B2 C2 D2 coast2 fr2 code a5 cap5 row W hn2 h)
  rw [hK2]
  clear hK2
  obtain ⟨⟨g0, g1, g2, g3, g4, g5, g6, g7, g8⟩, g9⟩ := yx Ga
  go_wp2_with fail
  clear g0 g1 g2 g3 g4 g5 g6 g7 g8 g9
  refine (yx cH _ (yx Ma)).mono ?_
  rintro e wbx ⟨rfl, hx⟩
  have Bb := yz (below_call (yx Ba) hx)
  have Tb := yz ((yx Ta).kept hx)
  have Kb := yz ((yx Ka).kept hx)
  have Wb := yz ((yx Wa).kept hx)
  have Db := yz ((yx Da).kept hx)
  have Gb := yz ((yx Ga).kept hx)
  have Mb := yz ((yx Ma).kept hx)
  clear Ba Ta Ka Wa Da Ga Ma
  clear hx
  go_wp2_with fail
  have CB := yz (show TkAt wbx w.heap.size (.slice a n c) lim mode A B C D coast fr ∧ KcAt wbx (w.heap.size + 1) (.slice br m dr) kind g1 g2 g3 g4 wd ht lv fo px from ⟨yx Tb, (yx Kb).kc⟩)
  go_cut [13] (fun sv wx => PlT wx wbx.heap.size sv L2 lim2 mode2 A2 B2 C2 D2 coast2 fr2 code ∧ Below wbx.heap.size wbx wx)
  case first =>
    refine wp_region_held_drew (S := (fun w' => (w'.cell? ⟨w.heap.size, 0, none⟩ = some (.slice a n c) ∧ w'.cell? ⟨w.heap.size, 1, none⟩ = some (.int .i64 lim) ∧ w'.cell? ⟨w.heap.size, 2, none⟩ = some (.int .i64 mode) ∧ w'.cell? ⟨w.heap.size, 3, none⟩ = some (.int .i64 A) ∧ w'.cell? ⟨w.heap.size, 4, none⟩ = some (.int .i64 B) ∧ w'.cell? ⟨w.heap.size, 5, none⟩ = some (.int .i64 C) ∧ w'.cell? ⟨w.heap.size, 6, none⟩ = some (.int .i64 D) ∧ w'.cell? ⟨w.heap.size, 7, none⟩ = some (.int .i64 coast) ∧ w'.cell? ⟨w.heap.size, 8, none⟩ = some (.int .i64 fr)) ∧ (w'.cell? ⟨w.heap.size + 1, 0, none⟩ = some (.int .i64 kind) ∧ w'.cell? ⟨w.heap.size + 1, 1, none⟩ = some (.int .i64 g1) ∧ w'.cell? ⟨w.heap.size + 1, 2, none⟩ = some (.int .i64 g2) ∧ w'.cell? ⟨w.heap.size + 1, 3, none⟩ = some (.int .i64 g3) ∧ w'.cell? ⟨w.heap.size + 1, 4, none⟩ = some (.int .i64 g4) ∧ w'.cell? ⟨w.heap.size + 1, 5, none⟩ = some (.slice br m dr) ∧ w'.cell? ⟨w.heap.size + 1, 6, none⟩ = some (.int .i64 wd) ∧ w'.cell? ⟨w.heap.size + 1, 7, none⟩ = some (.int .i64 ht) ∧ w'.cell? ⟨w.heap.size + 1, 8, none⟩ = some (.string px) ∧ w'.cell? ⟨w.heap.size + 1, 9, none⟩ = some (.int .i64 lv) ∧ w'.cell? ⟨w.heap.size + 1, 10, none⟩ = some (.int .i64 fo)))) (by kernel_rfl) ?_ (fun hHeld => ?_)
    · exact yx CB
    refine wpAnyH_take (i := 0) (v := ?_) rfl (by kernel_rfl) (by kernel_rfl) (by kernel_rfl) (fun _ _ _ h => h) (Or.inl ⟨by rfl, ?_⟩) (by assumption) ?_
    rotate_left
    · intro W0 hSw; (try dsimp only at hSw); go_simp <;> with_reducible rfl
    try simp only [Act.put, List.setIfInBounds_toArray, List.set_cons_zero, List.set_cons_succ]
    refine wpAnyH_take (i := 2) (v := ?_) rfl (by kernel_rfl) (by kernel_rfl) (by kernel_rfl) (fun _ _ _ h => h) (Or.inl ⟨by rfl, ?_⟩) (by assumption) ?_
    rotate_left
    · intro W0 hSw; (try dsimp only at hSw); go_simp <;> with_reducible rfl
    try simp only [Act.put, List.setIfInBounds_toArray, List.set_cons_zero, List.set_cons_succ]
    have HW := yz ((Below.refl wbx.heap.size wbx).drew)
    have HH := yz (keptTC (yx CB) (Below.refl _ _).drew)
    generalize hV : wbx.drew = V at HW HH hHeld ⊢
    clear hV
    refine wpAnyH_ready (rs := [1, 5]) (by kernel_rfl) (by simp) ?_
    refine AllReadyH.cons rfl (fun K hK => ?_) (AllReadyH.cons rfl (fun K hK => ?_) AllReadyH.nil)
    · skip
      go_simp
      refine (yx cT _ ((yx HS).kept (below_call (yx Bb) (yx HW)))).mono ?_
      rintro e V1 ⟨b2, rfl, ho, hb2, hx⟩
      have OT := yz ho
      clear ho hb2
      replace HW := yz (below_call (yx HW) hx)
      replace HH := yz (keptTC (yx HH) hx)
      clear hx
      refine hK.out _ _ (yx HH) (fun hHeld1 => ?_)
      clear hK K hHeld
      refine wpAnyH_ready (rs := [3, 5]) (by kernel_rfl) (by simp) ?_
      refine AllReadyH.cons rfl (fun K hK => ?_) (AllReadyH.cons rfl (fun K hK => ?_) AllReadyH.nil)
      · skip
        go_simp
        refine (yx cC _ ((yx HD).kept (below_call (yx Bb) (yx HW)))).mono ?_
        rintro e V2 ⟨b3, rfl, ho, hb3, hx⟩
        replace OT := yz ((yx OT).kept hx)
        have OC := yz ho
        clear ho hb3
        replace HW := yz (below_call (yx HW) hx)
        replace HH := yz (keptTC (yx HH) hx)
        clear hx
        refine hK.out _ _ (yx HH) (fun hHeld2 => ?_)
        clear hK K hHeld1
        refine wpAnyH_ready (rs := [4, 5]) (by kernel_rfl) (by simp) ?_
        refine AllReadyH.cons rfl (fun K hK => ?_) (AllReadyH.cons rfl (fun K hK => ?_) AllReadyH.nil)
        · skip
          go_simp
          refine (yx cR _ _ _ (yx OT).lt (yx OC).lt (yx OT).stars (yx OC).dirs ((yx HE).kept (below_call (yx Bb) (yx HW))) ((yx HEc).kept (below_call (yx Bb) (yx HW)))).mono ?_
          rintro e V3 ⟨⟨a3, cap3, rfl, hC⟩, hx⟩
          have HC := yz (hC.low (B' := wbx.heap.size) (yx HW).size)
          clear hC
          replace HW := yz (below_call (yx HW) hx)
          replace HH := yz (keptTC (yx HH) hx)
          clear hx
          refine hK.out _ _ (yx HH) (fun hHeld3 => ?_)
          clear hK K hHeld2
          refine wpAnyH_ready (rs := [5]) (by kernel_rfl) (by simp) ?_
          refine AllReadyH.cons rfl (fun K hK => ?_) AllReadyH.nil
          go_simp
          generalize hU : (World.alloc _ (.cells #[.slice none 0 0, .int .i64 0, .int .i64 0, .int .i64 0, .int .i64 0, .int .i64 0, .int .i64 0, .int .i64 0, .int .i64 0, .int .i64 0] 39)) = U4
          have hx : Below _ _ U4 := hU ▸ below1 _ _
          have HP : Hid (ResvT U4 _) := yz (hU ▸ resvT_new _ _)
          have HBL := yz (yx HW).size
          have HNE := yz (fun x e => Nat.ne_of_lt ((yx HC).block x e).2)
          replace HC := yz ((yx HC).kept hx)
          replace HW := yz (below_call (yx HW) hx)
          replace HH := yz (keptTC (yx HH) hx)
          clear hx hU
          refine hK.out _ _ (yx HH) (fun hHeld4 => ?_)
          clear hK K hHeld3
          refine wpAnyH_ready (rs := [6]) (by kernel_rfl) (by simp) ?_
          refine AllReadyH.cons rfl (fun K hK => ?_) AllReadyH.nil
          obtain ⟨⟨⟨r0, r1, r2, r3, r4, r5, r6, r7, r8⟩, r9⟩, hfz⟩ := yx HP
          have f0 := hfz 0
          have f1 := hfz 1
          have f2 := hfz 2
          have f3 := hfz 3
          have f4 := hfz 4
          have f5 := hfz 5
          have f6 := hfz 6
          have f7 := hfz 7
          have f8 := hfz 8
          have f9 := hfz 9
          go_simp
          clear r0 r1 r2 r3 r4 r5 r6 r7 r8 r9 f0 f1 f2 f3 f4 f5 f6 f7 f8 f9 hfz
          refine hK.out _ _ ?_ (fun hHeldE => ?_)
          · exact keptTC (yx CB) (belT (yx HW) (yx HBL) _ _ _ _ _ _ _ _ _ _)
          refine wpAnyH_done (by kernel_rfl) ?_ _
          clear hHeldE
          go_wp2_with fail
          go_meet
          exact ⟨plT_set (yx HP) (yx HC) (yx HBL) (yx HNE), belT (yx HW) (yx HBL) _ _ _ _ _ _ _ _ _ _⟩
        · skip
          go_simp
          generalize hU : (World.alloc _ (.cells #[.slice none 0 0, .int .i64 0, .int .i64 0, .int .i64 0, .int .i64 0, .int .i64 0, .int .i64 0, .int .i64 0, .int .i64 0, .int .i64 0] 39)) = U3
          have hx : Below _ _ U3 := hU ▸ below1 _ _
          have HP : Hid (ResvT U3 _) := yz (hU ▸ resvT_new _ _)
          have HBL := yz (yx HW).size
          try replace OT := yz ((yx OT).kept hx)
          try replace OC := yz ((yx OC).kept hx)
          replace HW := yz (below_call (yx HW) hx)
          replace HH := yz (keptTC (yx HH) hx)
          clear hx hU
          refine hK.out _ _ (yx HH) (fun hHeld3 => ?_)
          clear hK K hHeld2
          refine wpAnyH_ready (rs := [4]) (by kernel_rfl) (by simp) ?_
          refine AllReadyH.cons rfl (fun K hK => ?_) AllReadyH.nil
          go_simp
          refine (yx cR _ _ _ (yx OT).lt (yx OC).lt (yx OT).stars (yx OC).dirs ((yx HE).kept (below_call (yx Bb) (yx HW))) ((yx HEc).kept (below_call (yx Bb) (yx HW)))).mono ?_
          rintro e V4 ⟨⟨a3, cap3, rfl, hC⟩, hx⟩
          have HNE := yz (fun x e => (Nat.ne_of_lt (Nat.lt_of_lt_of_le (yx HP).1.lt (hC.block x e).1)).symm)
          have HC := yz (hC.low (B' := wbx.heap.size) (yx HW).size)
          clear hC
          replace HW := yz (below_call (yx HW) hx)
          replace HH := yz (keptTC (yx HH) hx)
          replace HP := yz (keptT (yx HP) hx)
          clear hx
          refine hK.out _ _ (yx HH) (fun hHeld4 => ?_)
          clear hK K hHeld3
          refine wpAnyH_ready (rs := [6]) (by kernel_rfl) (by simp) ?_
          refine AllReadyH.cons rfl (fun K hK => ?_) AllReadyH.nil
          obtain ⟨⟨⟨r0, r1, r2, r3, r4, r5, r6, r7, r8⟩, r9⟩, hfz⟩ := yx HP
          have f0 := hfz 0
          have f1 := hfz 1
          have f2 := hfz 2
          have f3 := hfz 3
          have f4 := hfz 4
          have f5 := hfz 5
          have f6 := hfz 6
          have f7 := hfz 7
          have f8 := hfz 8
          have f9 := hfz 9
          go_simp
          clear r0 r1 r2 r3 r4 r5 r6 r7 r8 r9 f0 f1 f2 f3 f4 f5 f6 f7 f8 f9 hfz
          refine hK.out _ _ ?_ (fun hHeldE => ?_)
          · exact keptTC (yx CB) (belT (yx HW) (yx HBL) _ _ _ _ _ _ _ _ _ _)
          refine wpAnyH_done (by kernel_rfl) ?_ _
          clear hHeldE
          go_wp2_with fail
          go_meet
          exact ⟨plT_set (yx HP) (yx HC) (yx HBL) (yx HNE), belT (yx HW) (yx HBL) _ _ _ _ _ _ _ _ _ _⟩
      · skip
        go_simp
        generalize hU : (World.alloc _ (.cells #[.slice none 0 0, .int .i64 0, .int .i64 0, .int .i64 0, .int .i64 0, .int .i64 0, .int .i64 0, .int .i64 0, .int .i64 0, .int .i64 0] 39)) = U2
        have hx : Below _ _ U2 := hU ▸ below1 _ _
        have HP : Hid (ResvT U2 _) := yz (hU ▸ resvT_new _ _)
        have HBL := yz (yx HW).size
        try replace OT := yz ((yx OT).kept hx)
        try replace OC := yz ((yx OC).kept hx)
        replace HW := yz (below_call (yx HW) hx)
        replace HH := yz (keptTC (yx HH) hx)
        clear hx hU
        refine hK.out _ _ (yx HH) (fun hHeld2 => ?_)
        clear hK K hHeld1
        refine wpAnyH_ready (rs := [3]) (by kernel_rfl) (by simp) ?_
        refine AllReadyH.cons rfl (fun K hK => ?_) AllReadyH.nil
        go_simp
        refine (yx cC _ ((yx HD).kept (below_call (yx Bb) (yx HW)))).mono ?_
        rintro e V3 ⟨b3, rfl, ho, hb3, hx⟩
        replace OT := yz ((yx OT).kept hx)
        have OC := yz ho
        clear ho hb3
        replace HW := yz (below_call (yx HW) hx)
        replace HH := yz (keptTC (yx HH) hx)
        replace HP := yz (keptT (yx HP) hx)
        clear hx
        refine hK.out _ _ (yx HH) (fun hHeld3 => ?_)
        clear hK K hHeld2
        refine wpAnyH_ready (rs := [4]) (by kernel_rfl) (by simp) ?_
        refine AllReadyH.cons rfl (fun K hK => ?_) AllReadyH.nil
        go_simp
        refine (yx cR _ _ _ (yx OT).lt (yx OC).lt (yx OT).stars (yx OC).dirs ((yx HE).kept (below_call (yx Bb) (yx HW))) ((yx HEc).kept (below_call (yx Bb) (yx HW)))).mono ?_
        rintro e V4 ⟨⟨a3, cap3, rfl, hC⟩, hx⟩
        have HNE := yz (fun x e => (Nat.ne_of_lt (Nat.lt_of_lt_of_le (yx HP).1.lt (hC.block x e).1)).symm)
        have HC := yz (hC.low (B' := wbx.heap.size) (yx HW).size)
        clear hC
        replace HW := yz (below_call (yx HW) hx)
        replace HH := yz (keptTC (yx HH) hx)
        replace HP := yz (keptT (yx HP) hx)
        clear hx
        refine hK.out _ _ (yx HH) (fun hHeld4 => ?_)
        clear hK K hHeld3
        refine wpAnyH_ready (rs := [6]) (by kernel_rfl) (by simp) ?_
        refine AllReadyH.cons rfl (fun K hK => ?_) AllReadyH.nil
        obtain ⟨⟨⟨r0, r1, r2, r3, r4, r5, r6, r7, r8⟩, r9⟩, hfz⟩ := yx HP
        have f0 := hfz 0
        have f1 := hfz 1
        have f2 := hfz 2
        have f3 := hfz 3
        have f4 := hfz 4
        have f5 := hfz 5
        have f6 := hfz 6
        have f7 := hfz 7
        have f8 := hfz 8
        have f9 := hfz 9
        go_simp
        clear r0 r1 r2 r3 r4 r5 r6 r7 r8 r9 f0 f1 f2 f3 f4 f5 f6 f7 f8 f9 hfz
        refine hK.out _ _ ?_ (fun hHeldE => ?_)
        · exact keptTC (yx CB) (belT (yx HW) (yx HBL) _ _ _ _ _ _ _ _ _ _)
        refine wpAnyH_done (by kernel_rfl) ?_ _
        clear hHeldE
        go_wp2_with fail
        go_meet
        exact ⟨plT_set (yx HP) (yx HC) (yx HBL) (yx HNE), belT (yx HW) (yx HBL) _ _ _ _ _ _ _ _ _ _⟩
    · skip
      go_simp
      generalize hU : (World.alloc _ (.cells #[.slice none 0 0, .int .i64 0, .int .i64 0, .int .i64 0, .int .i64 0, .int .i64 0, .int .i64 0, .int .i64 0, .int .i64 0, .int .i64 0] 39)) = U1
      have hx : Below _ _ U1 := hU ▸ below1 _ _
      have HP : Hid (ResvT U1 _) := yz (hU ▸ resvT_new _ _)
      have HBL := yz (yx HW).size
      replace HW := yz (below_call (yx HW) hx)
      replace HH := yz (keptTC (yx HH) hx)
      clear hx hU
      refine hK.out _ _ (yx HH) (fun hHeld1 => ?_)
      clear hK K hHeld
      refine wpAnyH_ready (rs := [1]) (by kernel_rfl) (by simp) ?_
      refine AllReadyH.cons rfl (fun K hK => ?_) AllReadyH.nil
      go_simp
      refine (yx cT _ ((yx HS).kept (below_call (yx Bb) (yx HW)))).mono ?_
      rintro e V2 ⟨b2, rfl, ho, hb2, hx⟩
      have OT := yz ho
      clear ho hb2
      replace HW := yz (below_call (yx HW) hx)
      replace HH := yz (keptTC (yx HH) hx)
      replace HP := yz (keptT (yx HP) hx)
      clear hx
      refine hK.out _ _ (yx HH) (fun hHeld2 => ?_)
      clear hK K hHeld1
      refine wpAnyH_ready (rs := [3]) (by kernel_rfl) (by simp) ?_
      refine AllReadyH.cons rfl (fun K hK => ?_) AllReadyH.nil
      go_simp
      refine (yx cC _ ((yx HD).kept (below_call (yx Bb) (yx HW)))).mono ?_
      rintro e V3 ⟨b3, rfl, ho, hb3, hx⟩
      replace OT := yz ((yx OT).kept hx)
      have OC := yz ho
      clear ho hb3
      replace HW := yz (below_call (yx HW) hx)
      replace HH := yz (keptTC (yx HH) hx)
      replace HP := yz (keptT (yx HP) hx)
      clear hx
      refine hK.out _ _ (yx HH) (fun hHeld3 => ?_)
      clear hK K hHeld2
      refine wpAnyH_ready (rs := [4]) (by kernel_rfl) (by simp) ?_
      refine AllReadyH.cons rfl (fun K hK => ?_) AllReadyH.nil
      go_simp
      refine (yx cR _ _ _ (yx OT).lt (yx OC).lt (yx OT).stars (yx OC).dirs ((yx HE).kept (below_call (yx Bb) (yx HW))) ((yx HEc).kept (below_call (yx Bb) (yx HW)))).mono ?_
      rintro e V4 ⟨⟨a3, cap3, rfl, hC⟩, hx⟩
      have HNE := yz (fun x e => (Nat.ne_of_lt (Nat.lt_of_lt_of_le (yx HP).1.lt (hC.block x e).1)).symm)
      have HC := yz (hC.low (B' := wbx.heap.size) (yx HW).size)
      clear hC
      replace HW := yz (below_call (yx HW) hx)
      replace HH := yz (keptTC (yx HH) hx)
      replace HP := yz (keptT (yx HP) hx)
      clear hx
      refine hK.out _ _ (yx HH) (fun hHeld4 => ?_)
      clear hK K hHeld3
      refine wpAnyH_ready (rs := [6]) (by kernel_rfl) (by simp) ?_
      refine AllReadyH.cons rfl (fun K hK => ?_) AllReadyH.nil
      obtain ⟨⟨⟨r0, r1, r2, r3, r4, r5, r6, r7, r8⟩, r9⟩, hfz⟩ := yx HP
      have f0 := hfz 0
      have f1 := hfz 1
      have f2 := hfz 2
      have f3 := hfz 3
      have f4 := hfz 4
      have f5 := hfz 5
      have f6 := hfz 6
      have f7 := hfz 7
      have f8 := hfz 8
      have f9 := hfz 9
      go_simp
      clear r0 r1 r2 r3 r4 r5 r6 r7 r8 r9 f0 f1 f2 f3 f4 f5 f6 f7 f8 f9 hfz
      refine hK.out _ _ ?_ (fun hHeldE => ?_)
      · exact keptTC (yx CB) (belT (yx HW) (yx HBL) _ _ _ _ _ _ _ _ _ _)
      refine wpAnyH_done (by kernel_rfl) ?_ _
      clear hHeldE
      go_wp2_with fail
      go_meet
      exact ⟨plT_set (yx HP) (yx HC) (yx HBL) (yx HNE), belT (yx HW) (yx HBL) _ _ _ _ _ _ _ _ _ _⟩
  case rest =>
  obtain ⟨⟨hb', add, capd, rfl, hO, hC, hN, hL⟩, hx⟩ := hcut
  clear CB
  have Cd := yz hC.stars
  have Bd := yz (below_call (yx Bb) hx)
  have Wd := yz ((yx Wb).kept hx)
  have Dd := yz ((yx Db).kept hx)
  have Gd := yz ((yx Gb).kept hx)
  have Md := yz ((yx Mb).kept hx)
  have Hd := hO
  clear hx hC hO hN hL Bb Tb Kb Wb Db Gb Mb
  generalize hwe : wc = Vd at Cd Bd Wd Dd Gd Md Hd ⊢
  clear hwe
  obtain ⟨⟨g0, g1, g2, g3, g4, g5, g6, g7, g8⟩, g9⟩ := Hd
  obtain ⟨⟨q0, q1, q2, q3, q4, q5, q6, q7, q8⟩, q9⟩ := yx Wd
  go_wp2_with fail
  clear g0 g1 g2 g3 g4 g5 g6 g7 g8 g9 q0 q1 q2 q3 q4 q5 q6 q7 q8 q9
  refine (eqTrackerOut_same L2 L2.length lim2 mode2 A2 B2 C2 D2 coast2 fr2 code add a3 capd cap3 _ hn2 (yx Cd) (yx Dd)).mono ?_
  rintro e we ⟨rfl, hx⟩
  have Be := yz (below_call (yx Bd) hx)
  have Ge := yz ((yx Gd).kept hx)
  have Me := yz ((yx Md).kept hx)
  clear hx Bd Wd Dd Gd Md Cd
  obtain ⟨⟨g0, g1, g2, g3, g4, g5, g6, g7, g8⟩, g9⟩ := yx Ge
  go_wp2_with fail
  clear g0 g1 g2 g3 g4 g5 g6 g7 g8 g9
  refine (yx cH _ (yx Me)).mono ?_
  rintro e wf ⟨rfl, hx⟩
  have Bf := yz (below_call (yx Be) hx)
  clear hx
  go_wp2_with fail
  go_ret
  exact ⟨rfl, yx Bf⟩
theorem lawObey_all (L : List St) (a : Option Addr) (len cap : Nat) (lim mode A B C D coast fr : Int) (hl : L.length = len) (hm : len ≤ maxLen) (S : List D3) (br : Option Addr) (len2 cap2 : Nat) (kind g1 g2 g3 g4 wd ht lv fo : Int) (px : ByteArray) (hl2 : S.length = len2) (hm2 : len2 ≤ maxLen) (hs : px.size ≤ maxLen) (w : World) (hS : Stars w a L len) (hD : Dirs w br S len2) (hE : ∃ p, ErrSky p w) (hEc : ∃ p, ErrCmd p w) :
    Calls Tryz.prog 3 #[.agg #[.slice a len cap, .int .i64 lim, .int .i64 mode, .int .i64 A, .int .i64 B, .int .i64 C, .int .i64 D, .int .i64 coast, .int .i64 fr], .agg #[.int .i64 kind, .int .i64 g1, .int .i64 g2, .int .i64 g3, .int .i64 g4, .slice br len2 cap2, .int .i64 wd, .int .i64 ht, .string px, .int .i64 lv, .int .i64 fo]] w fun e w' => e = .returned (.bool true) ∧ Below w.heap.size w w' := by
  obtain ⟨p, hp⟩ := hE
  obtain ⟨pc, hpc⟩ := hEc
  subst hl hl2
  have hm' : maxLen ≤ 9223372036854775807 := by decide +kernel
  by_cases h : L.length ≤ 1048576
  · by_cases hz : szCf (1048576 - (L.length : Int)) S.length px < 0
    · exact lawObey_neg L.length S.length lim mode A B C D coast fr kind g1 g2 g3 g4 wd ht lv fo px a br cap cap2 w h (by omega) hs hz
    · have := szCf_le hz
      exact lawObey L S lim mode A B C D coast fr kind g1 g2 g3 g4 wd ht lv fo px a br cap cap2 p pc w h (by omega) hs hz hS hD hp hpc
  · exact lawObey_big L.length S.length lim mode A B C D coast fr kind g1 g2 g3 g4 wd ht lv fo px a br cap cap2 w (by omega) (by omega)
end Go.Proofs.YteoonaanoenjiaaGreatDoor
