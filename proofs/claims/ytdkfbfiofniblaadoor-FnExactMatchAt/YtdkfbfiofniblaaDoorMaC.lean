/- The law on MatchAt, walked. -/
import Derived.Test.YtdkfbfiofniblaaDoorL7A
import Derived.Test.YtdkfbfiofniblaaDoorMaB
import Derived.Deep.RegionHeld
import Derived.Deep.DeepCutAuto
namespace Go.Proofs.YtdkfbfiofniblaaDoor
open Go.RowKit Go.Sort
set_option linter.unusedVariables false

theorem stepZ7 {w1 wx wn : World} {X : Prop} (hx : Below wx.heap.size wx wn) (h : X ∧ Below w1.heap.size w1 wx) : Below w1.heap.size w1 wn := below_call h.2 hx
theorem stepD7 {w1 wx wn : World} {X : Prop} (hx : Below wx.drew.heap.size wx.drew wn) (h : X ∧ Below w1.heap.size w1 wx) : Below w1.heap.size w1 wn := h.2.drew.trans (hx.mono h.2.size)
theorem prow7 {w1 wx wn : World} {X : Prop} {t : TypeId} {c hi n : Nat} {v : Value} {f : Nat → Value} (hp : PRow wn t c wx.heap.size hi n v f) (h : X ∧ Below w1.heap.size w1 wx) : PRow wn t c w1.heap.size hi n v f := hp.wide h.2.size (Nat.le_refl _)
theorem holdT7 {w1 wx : World} {A : Nat} {p q r s : Int} (va : TurnAt w1 A p q r s) (h : Below w1.heap.size w1 wx) : (wx.cell? ⟨A, 0, none⟩ = some (.int .i64 p) ∧ wx.cell? ⟨A, 1, none⟩ = some (.int .i64 q) ∧ wx.cell? ⟨A, 2, none⟩ = some (.int .i64 r) ∧ wx.cell? ⟨A, 3, none⟩ = some (.int .i64 s)) ∧ Below w1.heap.size w1 wx := by
  obtain ⟨h0, h1, h2, h3⟩ := va.kept va.lt h
  exact ⟨⟨h0, h1, h2, h3⟩, h⟩
theorem turnApart {w w' : World} {lo hi b : Nat} {p q r s : Int} (h : TurnAt w b p q r s) (ha : Apart lo hi w w') (hb : b < lo) : TurnAt w' b p q r s := h.same (ha.block b h.lt (.inl hb))
theorem OwnD.apart7 {w w' : World} {lo hi b n k : Nat} {L : List D3} (h : OwnD w b n L k) (ha : Apart lo hi w w') (hb : b < lo ∨ hi ≤ b) : OwnD w' b n L k := by
  have e := ha.block b h.lt hb
  obtain ⟨cur, hc, r⟩ := h
  exact ⟨cur, by rw [e]; exact hc, r⟩
theorem intL_val (R : List Int) (j : Nat) (h : j < R.length * 1) : (intL R)[j]? = some (valInt64S (fun j => R.getD j 0) (fun _ => false) j) := by
  have h' : j < R.length := by omega
  show (R.map (fun z => Value.int .i64 z))[j]? = some (.int .i64 (R.getD j 0))
  rw [List.getElem?_map, List.getElem?_eq_getElem h', List.getD_eq_getElem?_getD, List.getElem?_eq_getElem h']
  rfl

set_option maxHeartbeats 16000000 in
set_option maxRecDepth 100000 in
theorem lawMatchAt (L : List St) (S : List D3) (ar br : Option Addr) (cr dr : Nat) (a b c d : Int) (p : Addr) (w : World) (hn : L.length ≤ 1048576) (hm : (S.length : Int) ≤ 1048576 - (L.length : Int)) (hS : Stars w ar L L.length) (hD : Dirs w br S S.length) (hE : ErrSky p w) :
    Calls Tryd.prog 5 #[.slice ar L.length cr, .agg #[.int .i64 a, .int .i64 b, .int .i64 c, .int .i64 d], .slice br S.length dr] w fun e w' => e = .returned (.bool true) ∧ Below w.heap.size w w' := by
  have HS := hide hS
  have HD := hide hD
  have HE := hide hE
  have hm2 : S.length ≤ 1048576 := by omega
  clear hS hD hE
  have hm8 : 1048576 ≤ maxLen := by decide +kernel
  have cT := hide (fun W hW => toStarS_any L ar cr W hn hW)
  have cD := hide (fun W hW => toVecS_any S S.length br dr W hm2 hW)
  have cV := hide (fun W => toTurn7 a b c d W)
  obtain ⟨k, fI, hk, cS, cR⟩ : ∃ (k : Nat) (fI : Nat → Int), k ≤ 6 ∧ Hid (∀ (W : World) (q q' k0 k1 : Nat), Stars W (some ⟨q, 0, none⟩) L L.length → Dirs W (some ⟨q', 0, none⟩) S S.length → Calls Tryd.prog 24 #[.slice (some ⟨q, 0, none⟩) L.length k0, .agg #[.int .i64 a, .int .i64 b, .int .i64 c, .int .i64 d], .slice (some ⟨q', 0, none⟩) S.length k1] W fun e w' => ∃ v, e = .returned v ∧ PRow w' 2 1 W.heap.size w'.heap.size k v (valInt64S fI (fun _ => false)) ∧ Below W.heap.size W w')
      ∧ Hid (∀ (W : World) (q q' : Nat), Stars W (some ⟨q, 0, none⟩) L L.length → Dirs W (some ⟨q', 0, none⟩) S S.length → ErrSky p W → Calls Tryd.prog 26 #[.slice (some ⟨q, 0, none⟩) L.length L.length, .agg #[.int .i64 a, .int .i64 b, .int .i64 c, .int .i64 d], .slice (some ⟨q', 0, none⟩) S.length S.length] W fun e w' => ∃ v, e = .returned v ∧ PRow w' 2 1 W.heap.size w'.heap.size k v (valInt64S fI (fun _ => false)) ∧ Below W.heap.size W w') := by
    refine ⟨(matchL L a b c d S).length, fun j => (matchL L a b c d S).getD j 0, match_len L a b c d S, hide (fun W q q' k0 k1 hW hW' => (specMatchAt_any L S _ _ k0 k1 a b c d W hn hm2 hW hW').mono fun e w' h => ?_), hide (fun W q q' hW hW' hE => (implMatchAt_any L S _ _ _ _ a b c d p W hn (Nat.le_refl _) (by omega) hm2 (Nat.le_refl _) (by omega) hW hW' hE).mono fun e w' h => ?_)⟩
    · obtain ⟨⟨v, he, ho⟩, hb⟩ := h
      exact ⟨v, he, PRow.of ho (intL_val _), hb⟩
    · obtain ⟨⟨v, he, ho⟩, hb⟩ := h
      exact ⟨v, he, ho, hb⟩
  generalize S.length = m at *
  generalize L.length = n at *
  have h0 : ¬ (1048576 : Int) - (n : Int) < 0 := by omega
  have h1 : ¬ (1048576 : Int) - (n : Int) - (m : Int) < 0 := by omega
  have T0 := hide (turnAt_new w a b c d 46)
  have B0 := hide (below1 w (.cells #[.int .i64 a, .int .i64 b, .int .i64 c, .int .i64 d] 46))
  go_enter Tryd.func5, Tryd.ntmps5
  go_wp2_with fail
  refine (szStarS_any ar n cr _ hn).mono ?_
  rintro e w1 ⟨rfl, hw⟩
  rw [hw]
  clear hw w1
  go_wp2_with fail
  refine (szVecS_any br m dr (1048576 - (n : Int)) _ (by omega) (by omega) (by omega)).mono ?_
  rintro e w1 ⟨rfl, hw⟩
  rw [hw]
  clear hw w1
  go_wp2_with fail
  generalize w.alloc (.cells #[.int .i64 a, .int .i64 b, .int .i64 c, .int .i64 d] 46) = W1 at T0 B0 ⊢
  go_cut [8] (fun sv wx => Hid (PRow wx 2 1 0 wx.heap.size k sv (valInt64S fI (fun _ => false))) ∧ Hid (Below W1.heap.size W1 wx))
  case first =>
    go_region_held (fun w' => (w'.cell? ⟨w.heap.size, 0, none⟩ = some (.int .i64 a) ∧ w'.cell? ⟨w.heap.size, 1, none⟩ = some (.int .i64 b) ∧ w'.cell? ⟨w.heap.size, 2, none⟩ = some (.int .i64 c) ∧ w'.cell? ⟨w.heap.size, 3, none⟩ = some (.int .i64 d)) ∧ Below W1.heap.size W1 w') (first | (with_reducible exact holdT7 (unhide T0) (Below.refl _ _).drew) | (with_reducible exact holdT7 (unhide T0) (by assumption))) (first | (go_at_call 10; (with_reducible refine (unhide cT _ ((unhide HS).kept (below_call (unhide B0) (And.right (by assumption))))).mono ?_); rintro e wn ⟨rfl, ho, hx⟩; (try replace OS := hide ((unhide OS).kept hx)); (try replace OD := hide ((unhide OD).kept hx)); have OS := hide ho; clear ho; have hw : Below W1.heap.size W1 wn := (by first | (with_reducible exact stepZ7 hx (by assumption)) | (with_reducible exact stepD7 hx (by assumption)) | (with_reducible exact (Below.refl _ _).drew.trans (hx.mono (Nat.le_refl _))))) | (go_at_call 25; (with_reducible refine (unhide cV _).mono ?_); rintro e wn ⟨rfl, hx⟩; (try replace OS := hide ((unhide OS).kept hx)); (try replace OD := hide ((unhide OD).kept hx)); have hw : Below W1.heap.size W1 wn := (by first | (with_reducible exact stepZ7 hx (by assumption)) | (with_reducible exact stepD7 hx (by assumption)) | (with_reducible exact (Below.refl _ _).drew.trans (hx.mono (Nat.le_refl _))))) | (go_at_call 11; (with_reducible refine (unhide cD _ ((unhide HD).kept (below_call (unhide B0) (And.right (by assumption))))).mono ?_); rintro e wn ⟨rfl, ho, hx⟩; (try replace OS := hide ((unhide OS).kept hx)); (try replace OD := hide ((unhide OD).kept hx)); have OD := hide ho; clear ho; have hw : Below W1.heap.size W1 wn := (by first | (with_reducible exact stepZ7 hx (by assumption)) | (with_reducible exact stepD7 hx (by assumption)) | (with_reducible exact (Below.refl _ _).drew.trans (hx.mono (Nat.le_refl _))))) | (go_at_call 24; (with_reducible refine (unhide cS _ _ _ n m ?_ ?_).mono ?_); (exact (unhide OS).stars); (exact (unhide OD).dirs); rintro e wn ⟨v, rfl, hp, hx⟩; have GP := hide ((prow7 (w1 := W1) hp (by assumption)).wide (lo' := 0) (by omega) (Nat.le_refl _)); clear hp; have hw : Below W1.heap.size W1 wn := (by first | (with_reducible exact stepZ7 hx (by assumption)) | (with_reducible exact stepD7 hx (by assumption)) | (with_reducible exact (Below.refl _ _).drew.trans (hx.mono (Nat.le_refl _))))))
    all_goals (go_wp2_with fail; go_meet)
    all_goals exact ⟨GP, hide hw⟩
  case rest =>
  obtain ⟨HP, HX⟩ := hcut
  have hx := unhide HX
  have P2 := HP
  have T2 := hide ((unhide T0).kept (unhide T0).lt hx)
  have B2 := hide (below_call (unhide B0) hx)
  clear HX hx HP T0 B0
  generalize hwe : wc = W2 at P2 T2 B2 ⊢
  clear hwe
  go_wp2_with fail
  refine (unhide cT _ ((unhide HS).kept (unhide B2))).mono ?_
  rintro e w3 ⟨rfl, ho, hx⟩
  have O3 := hide ho
  have P3 := hide ((unhide P2).kept hx)
  have T3 := hide ((unhide T2).kept (unhide T2).lt hx)
  have B3 := hide (below_call (unhide B2) hx)
  have l3 : W2.heap.size < w3.heap.size := ho.lt
  have l2 := (unhide T2).lt
  generalize W2.heap.size = xb at *
  clear ho hx
  clear P2 T2 B2
  go_wp2_with fail
  refine (unhide cD _ ((unhide HD).kept (unhide B3))).mono ?_
  rintro e w4 ⟨rfl, ho, hx⟩
  have D4 := hide ho
  have O4 := hide ((unhide O3).kept hx)
  have P4 := hide ((unhide P3).kept hx)
  have T4 := hide ((unhide T3).kept (unhide T3).lt hx)
  have B4 := hide (below_call (unhide B3) hx)
  have l4 : w3.heap.size < w4.heap.size := ho.lt
  generalize w3.heap.size = yb at *
  clear ho hx
  clear O3 P3 T3 B3
  obtain ⟨t0, t1, t2, t3⟩ := unhide T4
  go_wp2_with fail
  clear t0 t1 t2 t3
  refine (unhide cV _).mono ?_
  rintro e w5 ⟨rfl, hx⟩
  have l5 := hx.size
  have O5 := hide ((unhide O4).kept hx)
  have D5 := hide ((unhide D4).kept hx)
  have P5 := hide ((unhide P4).kept hx)
  have T5 := hide ((unhide T4).kept (unhide T4).lt hx)
  have B5 := hide (below_call (unhide B4) hx)
  clear hx
  clear O4 D4 P4 T4 B4
  go_wp2_with fail
  refine (unhide cR _ _ _ (unhide O5).stars (unhide D5).dirs ((unhide HE).kept (unhide B5))).mono ?_
  rintro e w6 ⟨gv, rfl, hp, hx⟩
  have G6 := hide hp
  have l6 := hx.size
  have O6 := hide ((unhide O5).kept hx)
  have D6 := hide ((unhide D5).kept hx)
  have P6 := hide ((unhide P5).kept hx)
  have T6 := hide ((unhide T5).kept (unhide T5).lt hx)
  have B6 := hide (below_call (unhide B5) hx)
  clear hx hp
  clear O5 D5 P5 T5 B5
  generalize w5.heap.size = lo at *
  go_wp2_with fail
  refine (eqInt64S_any k _ _ _ _ gv u8 fI _ _ (by omega) (unhide G6) (unhide P6)).mono ?_
  rintro e w7 ⟨rfl, hx⟩
  have l7 := hx.size
  have G7 := hide (((unhide G6).wide (Nat.le_refl _) hx.size).kept hx)
  have O7 := hide ((unhide O6).kept hx)
  have D7 := hide ((unhide D6).kept hx)
  have P7 := hide ((unhide P6).kept hx)
  have T7 := hide ((unhide T6).kept (unhide T6).lt hx)
  have B7 := hide (below_call (unhide B6) hx)
  clear hx G6
  clear O6 D6 P6 T6 B6
  go_wp2_with fail
  refine (unhide cT _ ((unhide HS).kept (unhide B7))).mono ?_
  rintro e w8 ⟨rfl, ho, hx⟩
  have OT := hide ho
  have l8 := hx.size
  have G8 := hide ((unhide G7).kept hx)
  have O8 := hide ((unhide O7).kept hx)
  have D8 := hide ((unhide D7).kept hx)
  have P8 := hide ((unhide P7).kept hx)
  have T8 := hide ((unhide T7).kept (unhide T7).lt hx)
  have B8 := hide (below_call (unhide B7) hx)
  generalize w7.heap.size = hi at *
  clear ho hx
  clear G7 O7 D7 P7 T7 B7
  go_wp2_with fail
  refine (eqStarS_same L n (some ⟨xb, 0, none⟩) (some ⟨hi, 0, none⟩) n n _ hn (unhide O8).stars (unhide OT).stars).mono ?_
  rintro e w9 ⟨rfl, hx⟩
  have l9 := hx.size
  have G9 := hide ((unhide G8).kept hx)
  have O9 := hide ((unhide O8).kept hx)
  have D9 := hide ((unhide D8).kept hx)
  have P9 := hide ((unhide P8).kept hx)
  have T9 := hide ((unhide T8).kept (unhide T8).lt hx)
  have B9 := hide (below_call (unhide B8) hx)
  clear hx OT
  clear G8 O8 D8 P8 T8 B8
  go_wp2_with fail
  refine (unhide cD _ ((unhide HD).kept (unhide B9))).mono ?_
  rintro e wa ⟨rfl, ho, hx⟩
  have OT := hide ho
  have la := hx.size
  have Ga := hide ((unhide G9).kept hx)
  have Oa := hide ((unhide O9).kept hx)
  have Da := hide ((unhide D9).kept hx)
  have Pa := hide ((unhide P9).kept hx)
  have Ta := hide ((unhide T9).kept (unhide T9).lt hx)
  have Ba := hide (below_call (unhide B9) hx)
  generalize w9.heap.size = yb2 at *
  clear ho hx
  clear G9 O9 D9 P9 T9 B9
  go_wp2_with fail
  refine (eqVecS_same S m (some ⟨yb, 0, none⟩) (some ⟨yb2, 0, none⟩) m m _ hm2 (unhide Da).dirs (unhide OT).dirs).mono ?_
  rintro e wb ⟨rfl, hx⟩
  have lb := hx.size
  have Gb := hide ((unhide Ga).kept hx)
  have Ob := hide ((unhide Oa).kept hx)
  have Db := hide ((unhide Da).kept hx)
  have Pb := hide ((unhide Pa).kept hx)
  have Tb := hide ((unhide Ta).kept (unhide Ta).lt hx)
  have Bb := hide (below_call (unhide Ba) hx)
  clear hx OT
  clear Ga Oa Da Pa Ta Ba
  go_wp2_with fail
  obtain ⟨fs, hfs⟩ := rowOfStars (unhide Ob)
  refine (markStarS_any n n xb fs _ hn hfs).mono ?_
  rintro e wd ⟨rfl, _, hg⟩
  have ha := Apart.of (lo := xb) (hi := xb + 1) hg (Nat.le_refl _) (by omega)
  have ld := ha.size
  have Gd := hide ((unhide Gb).apart ha (by omega))
  have Dd := hide ((unhide Db).apart7 ha (by omega))
  have Pd := hide ((unhide Pb).apart ha (by omega))
  have Td := hide (turnApart (unhide Tb) ha (by omega))
  have Bd := hide (ha.below (unhide Bb) (by omega) (by omega))
  clear hg ha hfs
  clear Gb Ob Db Pb Tb Bb
  go_wp2_with fail
  obtain ⟨fv, hfv⟩ := rowOfDirs (unhide Dd)
  refine (markVecS_from m m yb (1 + (n : Int) * 4) fv _ hm2 (by omega) (by omega) hfv).mono ?_
  rintro e we ⟨rfl, hg⟩
  have ha := Apart.of (lo := yb) (hi := yb + 1) hg (Nat.le_refl _) (by omega)
  have le := ha.size
  have Ge := hide ((unhide Gd).apart ha (by omega))
  have Pe := hide ((unhide Pd).apart ha (by omega))
  have Te := hide (turnApart (unhide Td) ha (by omega))
  have Be := hide (ha.below (unhide Bd) (by omega) (by omega))
  clear hg ha hfv
  clear Gd Dd Pd Td Bd
  have hk0 : ¬ (1 + (n : Int) * 4 + (m : Int) * 3) < 0 := by omega
  have hk1 : decide ((1 + (n : Int) * 4 + (m : Int) * 3) < 0) = false := by simp; omega
  go_wp2_with fail
  refine (eqInt64S_any k _ _ _ _ gv u8 fI _ _ (by omega) (unhide Ge) (unhide Pe)).mono ?_
  rintro e wf ⟨rfl, hx⟩
  have lf := hx.size
  have Gf := hide ((unhide Ge).kept hx)
  have Pf := hide ((unhide Pe).kept hx)
  have Tf := hide ((unhide Te).kept (unhide Te).lt hx)
  have Bf := hide (below_call (unhide Be) hx)
  clear hx
  clear Ge Pe Te Be
  go_wp2_with fail
  refine (markInt64S_any k lo hi gv _ _ (by omega) (unhide Gf)).mono ?_
  rintro e wg ⟨rfl, hp, ha⟩
  have Gg := hide hp
  have lg := ha.size
  have Pg := hide ((unhide Pf).apart ha (by omega))
  have Tg := hide (turnApart (unhide Tf) ha (by omega))
  have Bg := hide (ha.below (unhide Bf) (by omega) (by omega))
  clear hp ha
  clear Gf Pf Tf Bf
  have hm0 : ¬ (1 + (k : Int)) < 0 := by omega
  go_wp2_with fail
  refine (heldInt64S_any k lo hi gv _ (by omega) (unhide Gg)).mono ?_
  rintro e wh ⟨rfl, hw⟩
  rw [hw]
  clear hw wh
  go_wp2_with fail
  go_cut [15] (fun sv wx => Hid (PRow wx 2 1 0 wx.heap.size k sv (valInt64S fI (fun _ => false))) ∧ Hid (Below wg.heap.size wg wx))
  case first =>
    go_region_held (fun w' => (w'.cell? ⟨w.heap.size, 0, none⟩ = some (.int .i64 a) ∧ w'.cell? ⟨w.heap.size, 1, none⟩ = some (.int .i64 b) ∧ w'.cell? ⟨w.heap.size, 2, none⟩ = some (.int .i64 c) ∧ w'.cell? ⟨w.heap.size, 3, none⟩ = some (.int .i64 d)) ∧ Below wg.heap.size wg w') (first | (with_reducible exact holdT7 (unhide Tg) (Below.refl _ _).drew) | (with_reducible exact holdT7 (unhide Tg) (by assumption))) (first | (go_at_call 10; (with_reducible refine (unhide cT _ ((unhide HS).kept (below_call (unhide Bg) (And.right (by assumption))))).mono ?_); rintro e wn ⟨rfl, ho, hx⟩; (try replace OS := hide ((unhide OS).kept hx)); (try replace OD := hide ((unhide OD).kept hx)); have OS := hide ho; clear ho; have hw : Below wg.heap.size wg wn := (by first | (with_reducible exact stepZ7 hx (by assumption)) | (with_reducible exact stepD7 hx (by assumption)) | (with_reducible exact (Below.refl _ _).drew.trans (hx.mono (Nat.le_refl _))))) | (go_at_call 25; (with_reducible refine (unhide cV _).mono ?_); rintro e wn ⟨rfl, hx⟩; (try replace OS := hide ((unhide OS).kept hx)); (try replace OD := hide ((unhide OD).kept hx)); have hw : Below wg.heap.size wg wn := (by first | (with_reducible exact stepZ7 hx (by assumption)) | (with_reducible exact stepD7 hx (by assumption)) | (with_reducible exact (Below.refl _ _).drew.trans (hx.mono (Nat.le_refl _))))) | (go_at_call 11; (with_reducible refine (unhide cD _ ((unhide HD).kept (below_call (unhide Bg) (And.right (by assumption))))).mono ?_); rintro e wn ⟨rfl, ho, hx⟩; (try replace OS := hide ((unhide OS).kept hx)); (try replace OD := hide ((unhide OD).kept hx)); have OD := hide ho; clear ho; have hw : Below wg.heap.size wg wn := (by first | (with_reducible exact stepZ7 hx (by assumption)) | (with_reducible exact stepD7 hx (by assumption)) | (with_reducible exact (Below.refl _ _).drew.trans (hx.mono (Nat.le_refl _))))) | (go_at_call 26; (with_reducible refine (unhide cR _ _ _ ?_ ?_ ((unhide HE).kept (below_call (unhide Bg) (And.right (by assumption))))).mono ?_); (exact (unhide OS).stars); (exact (unhide OD).dirs); rintro e wn ⟨v, rfl, hp, hx⟩; have GP := hide ((prow7 (w1 := wg) hp (by assumption)).wide (lo' := 0) (by omega) (Nat.le_refl _)); clear hp; have hw : Below wg.heap.size wg wn := (by first | (with_reducible exact stepZ7 hx (by assumption)) | (with_reducible exact stepD7 hx (by assumption)) | (with_reducible exact (Below.refl _ _).drew.trans (hx.mono (Nat.le_refl _))))))
    all_goals (go_wp2_with fail; go_meet)
    all_goals exact ⟨GP, hide hw⟩
  case rest =>
  obtain ⟨HP, HX⟩ := hcut
  have hx := unhide HX
  have Hc := HP
  have Gh := hide ((unhide Gg).kept hx)
  have Ph := hide ((unhide Pg).kept hx)
  have Bh := hide (below_call (unhide Bg) hx)
  clear HX hx HP
  clear Gg Pg Tg Bg
  go_wp2_with fail
  refine (eqInt64S_any k _ _ _ _ u15 u8 fI _ _ (by omega) (unhide Hc) (unhide Ph)).mono ?_
  rintro e wi ⟨rfl, hx⟩
  have Gi := hide ((unhide Gh).kept hx)
  have Bi := hide (below_call (unhide Bh) hx)
  clear hx Bh Ph Gh Hc
  go_wp2_with fail
  refine (heldInt64S_any k lo hi gv _ (by omega) (unhide Gi)).mono ?_
  rintro e wh ⟨rfl, hw⟩
  rw [hw]
  clear hw wh
  go_wp2_with fail
  go_ret
  exact ⟨rfl, unhide Bi⟩
set_option maxRecDepth 100000 in
theorem lawMatchAt_big (n m : Nat) (ar br : Option Addr) (cr dr : Nat) (a b c d : Int) (w : World) (hn : n ≤ 9223372036854775807) (hm : m ≤ 9223372036854775807) (h : 1048576 < n ∨ (n ≤ 1048576 ∧ (1048576 : Int) - (n : Int) < (m : Int))) :
    Calls Tryd.prog 5 #[.slice ar n cr, .agg #[.int .i64 a, .int .i64 b, .int .i64 c, .int .i64 d], .slice br m dr] w fun e w' => e = .returned (.bool true) ∧ Below w.heap.size w w' := by
  rcases h with h | ⟨h, h2⟩
  · go_enter Tryd.func5, Tryd.ntmps5
    go_wp2_with fail
    refine (szStarS_big ar n cr _ h hn).mono ?_
    rintro e w1 ⟨rfl, hw⟩
    rw [hw]
    go_wp2_with fail
    go_ret
    exact ⟨rfl, below1 _ _⟩
  · have h0 : ¬ (1048576 : Int) - (n : Int) < 0 := by omega
    go_enter Tryd.func5, Tryd.ntmps5
    go_wp2_with fail
    refine (szStarS_any ar n cr _ h).mono ?_
    rintro e w1 ⟨rfl, hw⟩
    rw [hw]
    clear hw w1
    go_wp2_with fail
    refine (szVecS_big br m dr (1048576 - (n : Int)) _ (by omega) (by omega) (by omega) hm).mono ?_
    rintro e w1 ⟨rfl, hw⟩
    rw [hw]
    go_wp2_with fail
    go_ret
    exact ⟨rfl, below1 _ _⟩
theorem lawMatchAt_all (L : List St) (ar : Option Addr) (len cap : Nat) (hl : L.length = len) (hm : len ≤ maxLen) (a b c d : Int) (S : List D3) (br : Option Addr) (len2 cap2 : Nat) (hl2 : S.length = len2) (hm2 : len2 ≤ maxLen) (w : World) (hS : Stars w ar L len) (hD : Dirs w br S len2) (hE : ∃ p, ErrSky p w) :
    Calls Tryd.prog 5 #[.slice ar len cap, .agg #[.int .i64 a, .int .i64 b, .int .i64 c, .int .i64 d], .slice br len2 cap2] w fun e w' => e = .returned (.bool true) ∧ Below w.heap.size w w' := by
  obtain ⟨p, hp⟩ := hE
  subst hl hl2
  have hm' : maxLen ≤ 9223372036854775807 := by decide +kernel
  by_cases h : L.length ≤ 1048576 ∧ (S.length : Int) ≤ 1048576 - (L.length : Int)
  · exact lawMatchAt L S ar br cap cap2 a b c d p w h.1 h.2 hS hD hp
  · exact lawMatchAt_big L.length S.length ar br cap cap2 a b c d w (by omega) (by omega) (by omega)
end Go.Proofs.YtdkfbfiofniblaaDoor
