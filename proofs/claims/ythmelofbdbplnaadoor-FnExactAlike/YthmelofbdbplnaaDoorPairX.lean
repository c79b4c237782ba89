/- The law on Alike, walked. -/
import Derived.Test.YthmelofbdbplnaaDoorPairV
import Derived.Test.YthmelofbdbplnaaDoorPairW
import Derived.Test.YthmelofbdbplnaaDoorPairT
import Derived.Deep.RegionHeld
import Derived.Deep.DeepCutAuto
namespace Go.Proofs.YthmelofbdbplnaaDoor
open Go.RowKit Go.Sort
set_option linter.unusedVariables false

theorem stepCallZ {w1 wx wn : World} {X : Prop} (hx : Below wx.heap.size wx wn) (h : X ∧ Below w1.heap.size w1 wx) : Below w1.heap.size w1 wn := below_call h.2 hx
theorem stepCallD {w1 wx wn : World} {X : Prop} (hx : Below wx.drew.heap.size wx.drew wn) (h : X ∧ Below w1.heap.size w1 wx) : Below w1.heap.size w1 wn := h.2.drew.trans (hx.mono h.2.size)
theorem vecApart {w w' : World} {lo hi b : Nat} {x y z : Int} (h : VecAt w b x y z) (ha : Apart lo hi w w') (hb : b < lo) : VecAt w' b x y z := by
  have e := ha.block b (vlt h) (.inl hb)
  obtain ⟨h0, h1, h2⟩ := h
  exact ⟨(World.cell?_of_block (a := ⟨b, _, none⟩) e).trans h0, (World.cell?_of_block (a := ⟨b, _, none⟩) e).trans h1, (World.cell?_of_block (a := ⟨b, _, none⟩) e).trans h2⟩
theorem prowX {w1 wx wn : World} {X : Prop} {t : TypeId} {c hi n : Nat} {v : Value} {f : Nat → Value} (hp : PRow wn t c wx.heap.size hi n v f) (h : X ∧ Below w1.heap.size w1 wx) : PRow wn t c w1.heap.size hi n v f := hp.wide h.2.size (Nat.le_refl _)
theorem holdVV {w1 wx : World} {A B : Nat} {a1 a2 a3 b1 b2 b3 : Int} (va : VecAt w1 A a1 a2 a3) (vb : VecAt w1 B b1 b2 b3) (h : Below w1.heap.size w1 wx) : (wx.cell? ⟨A, 0, none⟩ = some (.int .i64 a1) ∧ wx.cell? ⟨A, 1, none⟩ = some (.int .i64 a2) ∧ wx.cell? ⟨A, 2, none⟩ = some (.int .i64 a3) ∧ wx.cell? ⟨B, 0, none⟩ = some (.int .i64 b1) ∧ wx.cell? ⟨B, 1, none⟩ = some (.int .i64 b2) ∧ wx.cell? ⟨B, 2, none⟩ = some (.int .i64 b3)) ∧ Below w1.heap.size w1 wx := by
  obtain ⟨h0, h1, h2⟩ := va.kept (vlt va) h
  obtain ⟨g0, g1, g2⟩ := vb.kept (vlt vb) h
  exact ⟨⟨h0, h1, h2, g0, g1, g2⟩, h⟩
theorem alikeR_len (L : List St) (a b : V3) : (alikeR L a b).length ≤ 200 := by
  unfold alikeR
  split
  · rename_i h
    unfold alikeOk at h
    rw [Bool.and_eq_true, Bool.and_eq_true] at h
    have h1 := allS_len L (sky_ok h.1.1).1
    rw [List.length_map]
    have := List.length_filter_le (fun s => decide (cosA a b s = 0)) (allS L L.length)
    omega
  · simp
set_option maxRecDepth 100000 in
theorem toVec_same (x y z : Int) (w : World) :
    Calls Tryd.prog 15 #[.agg #[.int .i64 x, .int .i64 y, .int .i64 z]] w fun e w' => e = .returned (.agg #[.int .i64 x, .int .i64 y, .int .i64 z]) ∧ Below w.heap.size w w' := by
  go_enter Tryd.func15, Tryd.ntmps15
  go_wp2
  exact bodyPost_ret (v := .agg #[.int .i64 x, .int .i64 y, .int .i64 z]) (by simp [results, Tryd.results15, go_sem]) rfl ⟨rfl, below3 _ _ _ _⟩

set_option maxHeartbeats 16000000 in
set_option maxRecDepth 100000 in
theorem lawAlike (L : List St) (ar : Option Addr) (cap : Nat) (a1 a2 a3 b1 b2 b3 : Int) (p : Addr) (w : World) (hn : L.length ≤ 1048576) (hS : Stars w ar L L.length) (hE : ErrSky p w) :
    Calls Tryd.prog 4 #[.slice ar L.length cap, .agg #[.int .i64 a1, .int .i64 a2, .int .i64 a3], .agg #[.int .i64 b1, .int .i64 b2, .int .i64 b3]] w fun e w' => e = .returned (.bool true) ∧ Below w.heap.size w w' := by
  have HS := hide hS
  have HE := hide hE
  clear hS hE
  have hm8 : 1048576 ≤ maxLen := by decide +kernel
  have cT := hide (fun W hW => toStarS_any L ar cap W hn hW)
  have cV := hide (fun W => toVec_same a1 a2 a3 W)
  have cU := hide (fun W => toVec_same b1 b2 b3 W)
  obtain ⟨m, fI, hm, cS, cR⟩ : ∃ (m : Nat) (fI : Nat → Int), m ≤ 200 ∧ Hid (∀ (W : World) (q k0 : Nat), Stars W (some ⟨q, 0, none⟩) L L.length → Calls Tryd.prog 14 #[.slice (some ⟨q, 0, none⟩) L.length k0, .agg #[.int .i64 a1, .int .i64 a2, .int .i64 a3], .agg #[.int .i64 b1, .int .i64 b2, .int .i64 b3]] W fun e w' => ∃ v, e = .returned v ∧ PRow w' 50 2 W.heap.size w'.heap.size m v (valPairS fI (fun _ => false)) ∧ Below W.heap.size W w')
      ∧ Hid (∀ (W : World) (q : Nat), Stars W (some ⟨q, 0, none⟩) L L.length → ErrSky p W → Calls Tryd.prog 16 #[.slice (some ⟨q, 0, none⟩) L.length L.length, .agg #[.int .i64 a1, .int .i64 a2, .int .i64 a3], .agg #[.int .i64 b1, .int .i64 b2, .int .i64 b3]] W fun e w' => ∃ v, e = .returned v ∧ PRow w' 50 2 W.heap.size w'.heap.size m v (valPairS fI (fun _ => false)) ∧ Below W.heap.size W w') := by
    refine ⟨(alikeR L (a1, a2, a3) (b1, b2, b3)).length, pairI (alikeR L (a1, a2, a3) (b1, b2, b3)), alikeR_len L (a1, a2, a3) (b1, b2, b3), hide (fun W q k0 hW => (specAlike_any L _ k0 a1 a2 a3 b1 b2 b3 W hn hW).mono fun e w' h => ?_), hide (fun W q hW hE => (alike_any L _ _ a1 a2 a3 b1 b2 b3 p W hn (Nat.le_refl _) (by omega) hW hE).mono fun e w' h => ?_)⟩
    all_goals
      obtain ⟨⟨v, he, ho⟩, hb⟩ := h
      exact ⟨v, he, PRow.of ho (pairI_at _ _), hb⟩
  generalize L.length = n at *
  have h0 : ¬ (1048576 : Int) - (n : Int) < 0 := by omega
  have A0 := hide ((vecAt_new w a1 a2 a3 34).alloc (by simp) (.cells #[.int .i64 b1, .int .i64 b2, .int .i64 b3] 34))
  have D0 := vecAt_new (w.alloc (.cells #[.int .i64 a1, .int .i64 a2, .int .i64 a3] 34)) b1 b2 b3 34
  have e1 : (w.alloc (.cells #[.int .i64 a1, .int .i64 a2, .int .i64 a3] 34)).heap.size = w.heap.size + 1 := by simp
  rw [e1] at D0
  have D1 := hide D0
  have B0 := hide (below2 w (.cells #[.int .i64 a1, .int .i64 a2, .int .i64 a3] 34) (.cells #[.int .i64 b1, .int .i64 b2, .int .i64 b3] 34))
  clear e1 D0
  go_enter Tryd.func4, Tryd.ntmps4
  go_wp2_with fail
  refine (szStarS_any ar n cap _ hn).mono ?_
  rintro e w1 ⟨rfl, hw⟩
  rw [hw]
  clear hw w1
  go_wp2_with fail
  generalize (w.alloc (.cells #[.int .i64 a1, .int .i64 a2, .int .i64 a3] 34)).alloc (.cells #[.int .i64 b1, .int .i64 b2, .int .i64 b3] 34) = W1 at A0 D1 B0 ⊢
  go_cut [8] (fun sv wx => Hid (PRow wx 50 2 0 wx.heap.size m sv (valPairS fI (fun _ => false))) ∧ Hid (Below W1.heap.size W1 wx))
  case first =>
    go_region_held (fun w' => (w'.cell? ⟨w.heap.size, 0, none⟩ = some (.int .i64 a1) ∧ w'.cell? ⟨w.heap.size, 1, none⟩ = some (.int .i64 a2) ∧ w'.cell? ⟨w.heap.size, 2, none⟩ = some (.int .i64 a3) ∧ w'.cell? ⟨w.heap.size + 1, 0, none⟩ = some (.int .i64 b1) ∧ w'.cell? ⟨w.heap.size + 1, 1, none⟩ = some (.int .i64 b2) ∧ w'.cell? ⟨w.heap.size + 1, 2, none⟩ = some (.int .i64 b3)) ∧ Below W1.heap.size W1 w') (first | (with_reducible exact holdVV (unhide A0) (unhide D1) (Below.refl _ _).drew) | (with_reducible exact holdVV (unhide A0) (unhide D1) (by assumption))) (first | (go_at_call 7; (with_reducible refine (unhide cT _ ((unhide HS).kept (below_call (unhide B0) (And.right (by assumption))))).mono ?_); rintro e wn ⟨rfl, ho, hx⟩; have OS := hide ho; clear ho; have hw : Below W1.heap.size W1 wn := (by first | (with_reducible exact stepCallZ hx (by assumption)) | (with_reducible exact stepCallD hx (by assumption)) | (with_reducible exact (Below.refl _ _).drew.trans (hx.mono (Nat.le_refl _))))) | (go_at_call 15; (with_reducible refine (unhide cV _).mono ?_); rintro e wn ⟨rfl, hx⟩; (try replace OS := hide ((unhide OS).kept hx)); have hw : Below W1.heap.size W1 wn := (by first | (with_reducible exact stepCallZ hx (by assumption)) | (with_reducible exact stepCallD hx (by assumption)) | (with_reducible exact (Below.refl _ _).drew.trans (hx.mono (Nat.le_refl _))))) | (go_at_call 15; (with_reducible refine (unhide cU _).mono ?_); rintro e wn ⟨rfl, hx⟩; (try replace OS := hide ((unhide OS).kept hx)); have hw : Below W1.heap.size W1 wn := (by first | (with_reducible exact stepCallZ hx (by assumption)) | (with_reducible exact stepCallD hx (by assumption)) | (with_reducible exact (Below.refl _ _).drew.trans (hx.mono (Nat.le_refl _))))) | (go_at_call 14; (with_reducible refine (unhide cS _ _ n ?_).mono ?_); (exact (unhide OS).stars); rintro e wn ⟨v, rfl, hp, hx⟩; have GP := hide ((prowX (w1 := W1) hp (by assumption)).wide (lo' := 0) (by omega) (Nat.le_refl _)); clear hp; have hw : Below W1.heap.size W1 wn := (by first | (with_reducible exact stepCallZ hx (by assumption)) | (with_reducible exact stepCallD hx (by assumption)) | (with_reducible exact (Below.refl _ _).drew.trans (hx.mono (Nat.le_refl _))))))
    all_goals (go_wp2_with fail; go_meet)
    all_goals exact ⟨GP, hide hw⟩
  case rest =>
  obtain ⟨HP, HX⟩ := hcut
  have hx := unhide HX
  have P2 := HP
  have A2 := hide ((unhide A0).kept (vlt (unhide A0)) hx)
  have D2 := hide ((unhide D1).kept (vlt (unhide D1)) hx)
  have B2 := hide (below_call (unhide B0) hx)
  clear HX hx HP A0 D1 B0
  generalize hwe : wc = W2 at P2 A2 D2 B2 ⊢
  clear hwe
  go_wp2_with fail
  refine (unhide cT _ ((unhide HS).kept (unhide B2))).mono ?_
  rintro e w3 ⟨rfl, ho, hx⟩
  have O3 := hide ho
  have P3 := hide ((unhide P2).kept hx)
  have A3 := hide ((unhide A2).kept (vlt (unhide A2)) hx)
  have D3 := hide ((unhide D2).kept (vlt (unhide D2)) hx)
  have B3 := hide (below_call (unhide B2) hx)
  have l3 : W2.heap.size < w3.heap.size := ho.lt
  have l2 := vlt (unhide D2)
  generalize W2.heap.size = xb at *
  clear ho hx B2 P2 A2 D2
  go_wp2_with fail
  go_cut [10] (fun sv wx => Hid (PRow wx 50 2 w3.heap.size wx.heap.size m sv (valPairS fI (fun _ => false))) ∧ Hid (Below w3.heap.size w3 wx))
  case first =>
    go_region_held (fun w' => (w'.cell? ⟨w.heap.size, 0, none⟩ = some (.int .i64 a1) ∧ w'.cell? ⟨w.heap.size, 1, none⟩ = some (.int .i64 a2) ∧ w'.cell? ⟨w.heap.size, 2, none⟩ = some (.int .i64 a3) ∧ w'.cell? ⟨w.heap.size + 1, 0, none⟩ = some (.int .i64 b1) ∧ w'.cell? ⟨w.heap.size + 1, 1, none⟩ = some (.int .i64 b2) ∧ w'.cell? ⟨w.heap.size + 1, 2, none⟩ = some (.int .i64 b3)) ∧ Below w3.heap.size w3 w') (first | (with_reducible exact holdVV (unhide A3) (unhide D3) (Below.refl _ _).drew) | (with_reducible exact holdVV (unhide A3) (unhide D3) (by assumption))) (first | (go_at_call 15; (with_reducible refine (unhide cV _).mono ?_); rintro e wn ⟨rfl, hx⟩; (try replace OS := hide ((unhide OS).kept hx)); have hw : Below w3.heap.size w3 wn := (by first | (with_reducible exact stepCallZ hx (by assumption)) | (with_reducible exact stepCallD hx (by assumption)) | (with_reducible exact (Below.refl _ _).drew.trans (hx.mono (Nat.le_refl _))))) | (go_at_call 15; (with_reducible refine (unhide cU _).mono ?_); rintro e wn ⟨rfl, hx⟩; (try replace OS := hide ((unhide OS).kept hx)); have hw : Below w3.heap.size w3 wn := (by first | (with_reducible exact stepCallZ hx (by assumption)) | (with_reducible exact stepCallD hx (by assumption)) | (with_reducible exact (Below.refl _ _).drew.trans (hx.mono (Nat.le_refl _))))) | (go_at_call 16; (with_reducible refine (unhide cR _ _ ?_ ((unhide HE).kept (below_call (unhide B3) (And.right (by assumption))))).mono ?_); (exact ((unhide O3).kept (And.right (by assumption))).stars); rintro e wn ⟨v, rfl, hp, hx⟩; have GP := hide ((prowX (w1 := w3) hp (by assumption)).wide (lo' := w3.heap.size) (by omega) (Nat.le_refl _)); clear hp; have hw : Below w3.heap.size w3 wn := (by first | (with_reducible exact stepCallZ hx (by assumption)) | (with_reducible exact stepCallD hx (by assumption)) | (with_reducible exact (Below.refl _ _).drew.trans (hx.mono (Nat.le_refl _))))))
    all_goals (go_wp2_with fail; go_meet)
    all_goals exact ⟨GP, hide hw⟩
  case rest =>
  obtain ⟨HP, HX⟩ := hcut
  have hx := unhide HX
  have G4 := HP
  have l4 := hx.size
  have P4 := hide ((unhide P3).kept hx)
  have O4 := hide ((unhide O3).kept hx)
  have D4 := hide ((unhide D3).kept (vlt (unhide D3)) hx)
  have A4 := hide ((unhide A3).kept (vlt (unhide A3)) hx)
  have B4 := hide (below_call (unhide B3) hx)
  clear HX hx HP
  clear P3 O3 D3 A3 B3
  generalize hwe : wc = w4 at *
  clear hwe
  generalize w3.heap.size = lo at *
  go_wp2_with fail
  refine (eqPairS_any m _ _ _ _ u10 u8 fI _ _ (by omega) (unhide G4) (unhide P4)).mono ?_
  rintro e w5 ⟨rfl, hx⟩
  have G5 := hide (((unhide G4).wide (Nat.le_refl _) hx.size).kept hx)
  have l5 := hx.size
  have P5 := hide ((unhide P4).kept hx)
  have O5 := hide ((unhide O4).kept hx)
  have D5 := hide ((unhide D4).kept (vlt (unhide D4)) hx)
  have A5 := hide ((unhide A4).kept (vlt (unhide A4)) hx)
  have B5 := hide (below_call (unhide B4) hx)
  clear hx G4
  clear P4 O4 D4 A4 B4
  go_wp2_with fail
  refine (unhide cT _ ((unhide HS).kept (unhide B5))).mono ?_
  rintro e w6 ⟨rfl, ho, hx⟩
  have OT := hide ho
  have l6 := hx.size
  have G6 := hide ((unhide G5).kept hx)
  have P6 := hide ((unhide P5).kept hx)
  have O6 := hide ((unhide O5).kept hx)
  have D6 := hide ((unhide D5).kept (vlt (unhide D5)) hx)
  have A6 := hide ((unhide A5).kept (vlt (unhide A5)) hx)
  have B6 := hide (below_call (unhide B5) hx)
  generalize w5.heap.size = hi at *
  clear ho hx
  clear G5 P5 O5 D5 A5 B5
  go_wp2_with fail
  refine (eqStarS_same L n (some ⟨xb, 0, none⟩) (some ⟨hi, 0, none⟩) n n _ hn (unhide O6).stars (unhide OT).stars).mono ?_
  rintro e w7 ⟨rfl, hx⟩
  have l7 := hx.size
  have G7 := hide ((unhide G6).kept hx)
  have P7 := hide ((unhide P6).kept hx)
  have O7 := hide ((unhide O6).kept hx)
  have D7 := hide ((unhide D6).kept (vlt (unhide D6)) hx)
  have A7 := hide ((unhide A6).kept (vlt (unhide A6)) hx)
  have B7 := hide (below_call (unhide B6) hx)
  clear hx OT
  clear G6 P6 O6 D6 A6 B6
  go_wp2_with fail
  obtain ⟨fs, hfs⟩ := row_of_stars (unhide O7)
  refine (markStarS_any n n xb fs _ hn hfs).mono ?_
  rintro e w8 ⟨rfl, _, hg⟩
  have ha := Apart.of (lo := xb) (hi := xb + 1) hg (Nat.le_refl _) (by omega)
  have l8 := ha.size
  have G8 := hide ((unhide G7).apart ha (by omega))
  have P8 := hide ((unhide P7).apart ha (by omega))
  have D8 := hide (vecApart (unhide D7) ha (by omega))
  have A8 := hide (vecApart (unhide A7) ha (by omega))
  have B8 := hide (ha.below (unhide B7) (by omega) (by omega))
  clear hg ha hfs
  clear G7 P7 O7 D7 A7 B7
  have hk0 : ¬ (1 + (n : Int) * 4) < 0 := by omega
  have hk1 : decide ((1 + (n : Int) * 4) < 0) = false := by simp; omega
  go_wp2_with fail
  refine (eqPairS_any m _ _ _ _ u10 u8 fI _ _ (by omega) (unhide G8) (unhide P8)).mono ?_
  rintro e w9 ⟨rfl, hx⟩
  have l9 := hx.size
  have G9 := hide ((unhide G8).kept hx)
  have P9 := hide ((unhide P8).kept hx)
  have D9 := hide ((unhide D8).kept (vlt (unhide D8)) hx)
  have A9 := hide ((unhide A8).kept (vlt (unhide A8)) hx)
  have B9 := hide (below_call (unhide B8) hx)
  clear hx
  clear G8 P8 D8 A8 B8
  go_wp2_with fail
  refine (markPairS_any m lo hi u10 _ _ (by omega) (unhide G9)).mono ?_
  rintro e wa ⟨rfl, hp, ha⟩
  have Ga := hide hp
  have la := ha.size
  have Pa := hide ((unhide P9).apart ha (by omega))
  have Da := hide (vecApart (unhide D9) ha (by omega))
  have Aa := hide (vecApart (unhide A9) ha (by omega))
  have Ba := hide (ha.below (unhide B9) (by omega) (by omega))
  clear hp ha
  clear G9 P9 D9 A9 B9
  have hm0 : ¬ (1 + (m : Int) * 2) < 0 := by omega
  go_wp2_with fail
  refine (heldPairS_any m lo hi u10 _ (by omega) (unhide Ga)).mono ?_
  rintro e wh ⟨rfl, hw⟩
  rw [hw]
  clear hw wh
  go_wp2_with fail
  go_cut [14] (fun sv wx => Hid (PRow wx 50 2 0 wx.heap.size m sv (valPairS fI (fun _ => false))) ∧ Hid (Below wa.heap.size wa wx))
  case first =>
    go_region_held (fun w' => (w'.cell? ⟨w.heap.size, 0, none⟩ = some (.int .i64 a1) ∧ w'.cell? ⟨w.heap.size, 1, none⟩ = some (.int .i64 a2) ∧ w'.cell? ⟨w.heap.size, 2, none⟩ = some (.int .i64 a3) ∧ w'.cell? ⟨w.heap.size + 1, 0, none⟩ = some (.int .i64 b1) ∧ w'.cell? ⟨w.heap.size + 1, 1, none⟩ = some (.int .i64 b2) ∧ w'.cell? ⟨w.heap.size + 1, 2, none⟩ = some (.int .i64 b3)) ∧ Below wa.heap.size wa w') (first | (with_reducible exact holdVV (unhide Aa) (unhide Da) (Below.refl _ _).drew) | (with_reducible exact holdVV (unhide Aa) (unhide Da) (by assumption))) (first | (go_at_call 7; (with_reducible refine (unhide cT _ ((unhide HS).kept (below_call (unhide Ba) (And.right (by assumption))))).mono ?_); rintro e wn ⟨rfl, ho, hx⟩; have OS := hide ho; clear ho; have hw : Below wa.heap.size wa wn := (by first | (with_reducible exact stepCallZ hx (by assumption)) | (with_reducible exact stepCallD hx (by assumption)) | (with_reducible exact (Below.refl _ _).drew.trans (hx.mono (Nat.le_refl _))))) | (go_at_call 15; (with_reducible refine (unhide cV _).mono ?_); rintro e wn ⟨rfl, hx⟩; (try replace OS := hide ((unhide OS).kept hx)); have hw : Below wa.heap.size wa wn := (by first | (with_reducible exact stepCallZ hx (by assumption)) | (with_reducible exact stepCallD hx (by assumption)) | (with_reducible exact (Below.refl _ _).drew.trans (hx.mono (Nat.le_refl _))))) | (go_at_call 15; (with_reducible refine (unhide cU _).mono ?_); rintro e wn ⟨rfl, hx⟩; (try replace OS := hide ((unhide OS).kept hx)); have hw : Below wa.heap.size wa wn := (by first | (with_reducible exact stepCallZ hx (by assumption)) | (with_reducible exact stepCallD hx (by assumption)) | (with_reducible exact (Below.refl _ _).drew.trans (hx.mono (Nat.le_refl _))))) | (go_at_call 16; (with_reducible refine (unhide cR _ _ ?_ ((unhide HE).kept (below_call (unhide Ba) (And.right (by assumption))))).mono ?_); (exact (unhide OS).stars); rintro e wn ⟨v, rfl, hp, hx⟩; have GP := hide ((prowX (w1 := wa) hp (by assumption)).wide (lo' := 0) (by omega) (Nat.le_refl _)); clear hp; have hw : Below wa.heap.size wa wn := (by first | (with_reducible exact stepCallZ hx (by assumption)) | (with_reducible exact stepCallD hx (by assumption)) | (with_reducible exact (Below.refl _ _).drew.trans (hx.mono (Nat.le_refl _))))))
    all_goals (go_wp2_with fail; go_meet)
    all_goals exact ⟨GP, hide hw⟩
  case rest =>
  obtain ⟨HP, HX⟩ := hcut
  have hx := unhide HX
  have Hc := HP
  have Gb := hide ((unhide Ga).kept hx)
  have Pb := hide ((unhide Pa).kept hx)
  have Bb := hide (below_call (unhide Ba) hx)
  clear HX hx HP
  clear Ga Pa Da Aa Ba
  go_wp2_with fail
  refine (eqPairS_any m _ _ _ _ u14 u8 fI _ _ (by omega) (unhide Hc) (unhide Pb)).mono ?_
  rintro e wd ⟨rfl, hx⟩
  have Gd := hide ((unhide Gb).kept hx)
  have Bd := hide (below_call (unhide Bb) hx)
  clear hx Bb Pb Gb Hc
  go_wp2_with fail
  refine (heldPairS_any m lo hi u10 _ (by omega) (unhide Gd)).mono ?_
  rintro e wh ⟨rfl, hw⟩
  rw [hw]
  clear hw wh
  go_wp2_with fail
  go_ret
  exact ⟨rfl, unhide Bd⟩
set_option maxRecDepth 100000 in
theorem lawAlike_big (n : Nat) (ar : Option Addr) (cap : Nat) (a1 a2 a3 b1 b2 b3 : Int) (w : World) (hn : 1048576 < n) (hm : n ≤ 9223372036854775807) :
    Calls Tryd.prog 4 #[.slice ar n cap, .agg #[.int .i64 a1, .int .i64 a2, .int .i64 a3], .agg #[.int .i64 b1, .int .i64 b2, .int .i64 b3]] w fun e w' => e = .returned (.bool true) ∧ Below w.heap.size w w' := by
  go_enter Tryd.func4, Tryd.ntmps4
  go_wp2_with fail
  refine (szStarS_big ar n cap _ hn hm).mono ?_
  rintro e w1 ⟨rfl, hw⟩
  rw [hw]
  go_wp2_with fail
  go_ret
  exact ⟨rfl, below2 _ _ _⟩
theorem lawAlike_all (L : List St) (ar : Option Addr) (len cap : Nat) (hl : L.length = len) (hm : len ≤ maxLen) (a1 a2 a3 b1 b2 b3 : Int) (w : World) (hS : Stars w ar L len) (hE : ∃ p, ErrSky p w) :
    Calls Tryd.prog 4 #[.slice ar len cap, .agg #[.int .i64 a1, .int .i64 a2, .int .i64 a3], .agg #[.int .i64 b1, .int .i64 b2, .int .i64 b3]] w fun e w' => e = .returned (.bool true) ∧ Below w.heap.size w w' := by
  obtain ⟨p, hp⟩ := hE
  subst hl
  have hm' : maxLen ≤ 9223372036854775807 := by decide +kernel
  by_cases h : L.length ≤ 1048576
  · exact lawAlike L ar cap a1 a2 a3 b1 b2 b3 p w h hS hp
  · exact lawAlike_big L.length ar cap a1 a2 a3 b1 b2 b3 w (by omega) (by omega)
end Go.Proofs.YthmelofbdbplnaaDoor
