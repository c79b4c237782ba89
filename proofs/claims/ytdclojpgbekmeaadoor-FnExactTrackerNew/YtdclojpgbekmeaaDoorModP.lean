/- The law on TrackerNew, walked. -/
import Derived.Test.YtdclojpgbekmeaaDoorModN
import Derived.Test.YtdclojpgbekmeaaDoorModO
namespace Go.Proofs.YtdclojpgbekmeaaDoor
open Go.RowKit Go.Sort
set_option linter.unusedVariables false

theorem OwnS.rowAt {w : World} {b n : Nat} {L : List St} (h : OwnS w b n L n) : ∃ f, RowAt w 60 b (n * 4) f := by
  rcases h.row with ⟨_, h⟩ | ⟨g, f, _, h2, h3⟩
  · cases h
  · obtain rfl := Option.some.inj h2
    exact ⟨f, h3⟩
set_option maxHeartbeats 16000000 in
set_option maxRecDepth 100000 in
theorem lawNew (L : List St) (lim : Int) (a : Option Addr) (c : Nat) (p : Addr) (w : World) (hn : L.length ≤ 1048576) (hS : Stars w a L L.length) (hE : ErrSky p w) :
    Calls Tryd.prog 4 #[.slice a L.length c, .int .i64 lim] w fun e w' => e = .returned (.bool true) ∧ Below w.heap.size w w' := by
  have HS := hide hS
  have HE := hide hE
  clear hS hE
  have cT : Hid (∀ W : World, Stars W a L L.length → Calls Tryd.prog 14 #[.slice a L.length c] W fun e w' => ∃ b, e = .returned (.slice (some ⟨b, 0, none⟩) L.length L.length) ∧ OwnS w' b L.length L L.length ∧ W.heap.size ≤ b ∧ Below W.heap.size W w') := hide (fun W hW => (toStarS_any L a c W hn hW).mono fun e w' h => ⟨_, h.1, h.2.1, Nat.le_refl _, h.2.2⟩)
  obtain ⟨t2, code, hn2, cS, cR⟩ : ∃ (t2 : Tk) (code : Int), t2.L.length ≤ 1048576 ∧ Hid (∀ (W : World) (b : Nat), Stars W (some ⟨b, 0, none⟩) L L.length → Calls Tryd.prog 13 #[.slice (some ⟨b, 0, none⟩) L.length L.length, .int .i64 lim] W fun e w' => OutT w' W.heap.size t2 code e ∧ Below W.heap.size W w')
    ∧ Hid (∀ (W : World) (b : Nat), Stars W (some ⟨b, 0, none⟩) L L.length → ErrSky p W → Calls Tryd.prog 15 #[.slice (some ⟨b, 0, none⟩) L.length L.length, .int .i64 lim] W fun e w' => OutT w' W.heap.size t2 code e ∧ Below W.heap.size W w') :=
    ⟨newT L lim, newC L lim, by unfold newT; split; exact Nat.zero_le _; split; exact hn; exact Nat.zero_le _, hide (fun W b hW => specNew_any L lim _ _ _ W hn hW), hide (fun W b hW hE => implNew_any L lim _ _ _ p W hn (Nat.le_refl _) (by omega) hE hW)⟩
  obtain ⟨L2, lim2, mode2, A2, B2, C2, D2, coast2, fr2⟩ := t2
  unfold OutT at cS cR
  dsimp only at hn2 cS cR
  generalize L.length = n at *
  have h0 : ¬ (1048576 : Int) - (n : Int) < 0 := by omega
  have B0 := hide (Below.refl w.heap.size w)
  go_enter Tryd.func4, Tryd.ntmps4
  go_wp2_with fail
  refine (szStarS_any a n c _ hn).mono ?_
  rintro e w1 ⟨rfl, hw⟩
  rw [hw]
  clear hw w1
  have B1 := B0
  clear B0
  go_wp2_with fail
  refine (unhide cT _ ((unhide HS).kept (unhide B1))).mono ?_
  rintro e w2 ⟨b2, rfl, ho, hb2, hx⟩
  have O2 := hide ho
  have Y2 := hide (below_call (unhide B1) hx)
  clear hx ho hb2 B1
  go_wp2_with fail
  refine (unhide cS _ b2 (unhide O2).stars).mono ?_
  rintro e w3 ⟨⟨a3, cap3, rfl, hC⟩, hx⟩
  have Z3 := below1 w3 (.cells #[.slice a3 L2.length cap3, .int .i64 lim2, .int .i64 mode2, .int .i64 A2, .int .i64 B2, .int .i64 C2, .int .i64 D2, .int .i64 coast2, .int .i64 fr2, .int .i64 code] 38)
  have C3 := hide (hC.kept Z3)
  have B3 := hide (below_call (below_call (unhide Y2) hx) Z3)
  have W3 := hide (tkO_new w3 (.slice a3 L2.length cap3) lim2 mode2 A2 B2 C2 D2 coast2 fr2 code 38)
  clear hx hC Y2 O2 Z3
  go_wp2_with fail
  generalize hV3 : w3.alloc (.cells #[.slice a3 L2.length cap3, .int .i64 lim2, .int .i64 mode2, .int .i64 A2, .int .i64 B2, .int .i64 C2, .int .i64 D2, .int .i64 coast2, .int .i64 fr2, .int .i64 code] 38) = V3 at *
  generalize hb3 : w3.heap.size = wb at *
  clear hV3 hb3
  refine (unhide cT _ ((unhide HS).kept (unhide B3))).mono ?_
  rintro e w4 ⟨b4, rfl, ho, hb4, hx⟩
  have O4 := hide ho
  have B4 := hide (below_call (unhide B3) hx)
  have W4 := hide ((unhide W3).kept hx)
  have C4 := hide ((unhide C3).stars.kept hx)
  have hr3 : ∀ x, a3 = some x → x.block < b4 := fun x e => by have := ((unhide C3).block x e).2; omega
  have hwb : wb < b4 := by have := (unhide W3).lt; omega
  have hwl : w.heap.size ≤ b4 := by have := (unhide B3).size; omega
  clear hx ho hb4 B3 W3 C3
  go_wp2_with fail
  generalize hV4 : w4 = V4 at *
  clear hV4
  refine (unhide cR _ b4 (unhide O4).stars ((unhide HE).kept (unhide B4))).mono ?_
  rintro e w5 ⟨⟨a5, cap5, rfl, hC⟩, hx⟩
  have Z5 := below1 w5 (.cells #[.slice a5 L2.length cap5, .int .i64 lim2, .int .i64 mode2, .int .i64 A2, .int .i64 B2, .int .i64 C2, .int .i64 D2, .int .i64 coast2, .int .i64 fr2, .int .i64 code] 38)
  have C5 := hide (hC.kept Z5)
  have O5 := hide (((unhide O4).kept hx).kept Z5)
  have B5 := hide (below_call (below_call (unhide B4) hx) Z5)
  have W5 := hide (((unhide W4).kept hx).kept Z5)
  have D5 := hide (((unhide C4).kept hx).kept Z5)
  have G5 := hide (tkO_new w5 (.slice a5 L2.length cap5) lim2 mode2 A2 B2 C2 D2 coast2 fr2 code 38)
  have hb4V : b4 < V4.heap.size := (unhide O4).lt
  have hgb : V4.heap.size ≤ w5.heap.size := hx.size
  have hr5 : ∀ x, a5 = some x → V4.heap.size ≤ x.block ∧ x.block < w5.heap.size := fun x e => hC.block x e
  clear hx hC O4 B4 W4 C4 Z5
  obtain ⟨⟨g0, g1, g2, g3, g4, g5, g6, g7, g8⟩, g9⟩ := unhide G5
  obtain ⟨⟨q0, q1, q2, q3, q4, q5, q6, q7, q8⟩, q9⟩ := unhide W5
  go_wp2_with fail
  clear g0 g1 g2 g3 g4 g5 g6 g7 g8 g9 q0 q1 q2 q3 q4 q5 q6 q7 q8 q9
  generalize hV5 : w5.alloc (.cells #[.slice a5 L2.length cap5, .int .i64 lim2, .int .i64 mode2, .int .i64 A2, .int .i64 B2, .int .i64 C2, .int .i64 D2, .int .i64 coast2, .int .i64 fr2, .int .i64 code] 38) = V5 at *
  generalize hg5 : w5.heap.size = gb at *
  clear hV5 hg5
  refine (eqTrackerOut_same L2 L2.length lim2 mode2 A2 B2 C2 D2 coast2 fr2 code a5 a3 cap5 cap3 _ hn2 (unhide C5).stars (unhide D5)).mono ?_
  rintro e w6 ⟨rfl, hx⟩
  have C6 := hide ((unhide C5).kept hx)
  have O6 := hide ((unhide O5).kept hx)
  have B6 := hide (below_call (unhide B5) hx)
  have W6 := hide ((unhide W5).kept hx)
  have D6 := hide ((unhide D5).kept hx)
  have G6 := hide ((unhide G5).kept hx)
  clear hx C5 O5 B5 W5 D5 G5
  go_wp2_with fail
  refine (unhide cT _ ((unhide HS).kept (unhide B6))).mono ?_
  rintro e w6b ⟨b7, rfl, ho, hb7, hx⟩
  have OT := hide ho
  have hxx := hx
  have O6b := hide ((unhide O6).kept hx)
  clear ho hb7 hx
  go_wp2_with fail
  refine (eqStarS_same L n (some ⟨b4, 0, none⟩) (some ⟨b7, 0, none⟩) n n _ hn (unhide O6b).stars (unhide OT).stars).mono ?_
  rintro e w7 ⟨rfl, hx⟩
  have hw : Below w6.heap.size w6 w7 := below_call hxx hx
  clear hx hxx O6b
  have C7 := hide ((unhide C6).kept hw)
  have O7 := hide ((unhide O6).kept hw)
  have B7 := hide (below_call (unhide B6) hw)
  have W7 := hide ((unhide W6).kept hw)
  have D7 := hide ((unhide D6).kept hw)
  have G7 := hide ((unhide G6).kept hw)
  clear OT C6 O6 B6 W6 D6 G6
  go_wp2_with fail
  obtain ⟨fO, hRow⟩ := (unhide O7).rowAt
  refine (markStarS_any n n b4 fO _ hn hRow).mono ?_
  rintro e w8 ⟨rfl, hm, hg⟩
  have B8 := hide (belowR (unhide B7) hg (unhide B7).size (fun g e => by cases e; omega))
  have W8 := hide ((unhide W7).grown hg (fun e => by have := Option.some.inj e; omega))
  have D8 := hide ((unhide D7).grown hg (fun x g e e' => by have := hr3 x e; cases e'; omega))
  have C8 := hide ((unhide C7).grown hg (fun g e => by cases e; exact hb4V))
  have G8 := hide ((unhide G7).grown hg (fun e => by have := Option.some.inj e; omega))
  clear hm hg hRow B7 W7 D7 C7 G7 O7
  obtain ⟨K1, hK1⟩ : ∃ K1 : Int, 1 + (n : Int) * 4 = K1 := ⟨_, rfl⟩
  have hk0 : ¬ K1 < 0 := by omega
  rw [hK1]
  clear hK1
  obtain ⟨⟨g0, g1, g2, g3, g4, g5, g6, g7, g8⟩, g9⟩ := unhide G8
  obtain ⟨⟨q0, q1, q2, q3, q4, q5, q6, q7, q8⟩, q9⟩ := unhide W8
  go_wp2_with fail
  clear g0 g1 g2 g3 g4 g5 g6 g7 g8 g9 q0 q1 q2 q3 q4 q5 q6 q7 q8 q9
  refine (eqTrackerOut_same L2 L2.length lim2 mode2 A2 B2 C2 D2 coast2 fr2 code a5 a3 cap5 cap3 _ hn2 (unhide C8).stars (unhide D8)).mono ?_
  rintro e w9 ⟨rfl, hx⟩
  have C9 := hide ((unhide C8).kept hx)
  have B9 := hide (below_call (unhide B8) hx)
  have W9 := hide ((unhide W8).kept hx)
  have D9 := hide ((unhide D8).kept hx)
  have G9 := hide ((unhide G8).kept hx)
  clear hx C8 B8 W8 D8 G8
  obtain ⟨⟨g0, g1, g2, g3, g4, g5, g6, g7, g8⟩, g9⟩ := unhide G9
  go_wp2_with fail
  clear g0 g1 g2 g3 g4 g5 g6 g7 g8 g9
  obtain ⟨row, hrow, hrb⟩ := (unhide C9).row
  have hrow2 : ∀ g, row = some g → V4.heap.size ≤ g ∧ g < gb := fun g e => by
    rcases hrow with ⟨_, h⟩ | ⟨g', f, h1, h2, _⟩
    · rw [h] at e; cases e
    · rw [h2] at e
      obtain rfl := Option.some.inj e
      exact hr5 _ h1
  refine (markTrackerOut_any L2.length lim2 mode2 A2 B2 C2 D2 coast2 fr2 code a5 cap5 row _ hn2 hrow).mono ?_
  rintro e wa ⟨rfl, hm, hg⟩
  have Ba := hide (belowR (unhide B9) hg (unhide B9).size (fun g e => by have := hrow2 g e; omega))
  have Wa := hide ((unhide W9).grown hg (fun e => by have := hrow2 _ e.symm; omega))
  have Da := hide ((unhide D9).grown hg (fun x g e e' => by have := hr3 x e; have := hrow2 g e'; omega))
  have Ga := hide ((unhide G9).grown hg (fun e => by have := hrow2 _ e.symm; omega))
  have Ma := hide hm
  clear hm hg B9 W9 D9 C9 G9 hrow
  obtain ⟨K2, hK2⟩ : ∃ K2 : Int, 1 + (L2.length : Int) * 4 = K2 := ⟨_, rfl⟩
  have hk2 : ¬ K2 < 0 := by omega
  have cH : Hid (∀ W : World, Mkd W a5 L2.length row → Calls Tryd.prog 20 #[.agg #[.slice a5 L2.length cap5, .int .i64 lim2, .int .i64 mode2, .int .i64 A2, .int .i64 B2, .int .i64 C2, .int .i64 D2, .int .i64 coast2, .int .i64 fr2, .int .i64 code], .int .i64 1] W fun e w' => e = .returned (.int .i64 K2) ∧ Below W.heap.size W w') := hide (fun W h => by rw [← hK2]; exact heldTrackerOut_any L2.length lim2 mode2 A2 B2 C2 D2 coast2 fr2 code a5 cap5 row W hn2 h)
  rw [hK2]
  clear hK2
  obtain ⟨⟨g0, g1, g2, g3, g4, g5, g6, g7, g8⟩, g9⟩ := unhide Ga
  go_wp2_with fail
  clear g0 g1 g2 g3 g4 g5 g6 g7 g8 g9
  refine (unhide cH _ (unhide Ma)).mono ?_
  rintro e wbx ⟨rfl, hx⟩
  have Bb := hide (below_call (unhide Ba) hx)
  have Wb := hide ((unhide Wa).kept hx)
  have Db := hide ((unhide Da).kept hx)
  have Gb := hide ((unhide Ga).kept hx)
  have Mb := hide ((unhide Ma).kept hx)
  clear hx Ba Wa Da Ga Ma
  go_wp2_with fail
  refine (unhide cT _ ((unhide HS).kept (unhide Bb))).mono ?_
  rintro e wc ⟨bc, rfl, ho, hbc, hx⟩
  have Oc := hide ho
  have Bc := hide (below_call (unhide Bb) hx)
  have Wc := hide ((unhide Wb).kept hx)
  have Dc := hide ((unhide Db).kept hx)
  have Gc := hide ((unhide Gb).kept hx)
  have Mc := hide ((unhide Mb).kept hx)
  clear hx ho hbc Bb Wb Db Gb Mb
  go_wp2_with fail
  refine (unhide cR _ bc (unhide Oc).stars ((unhide HE).kept (unhide Bc))).mono ?_
  rintro e wd ⟨⟨ad, capd, rfl, hC⟩, hx⟩
  have Zd := below1 wd (.cells #[.slice ad L2.length capd, .int .i64 lim2, .int .i64 mode2, .int .i64 A2, .int .i64 B2, .int .i64 C2, .int .i64 D2, .int .i64 coast2, .int .i64 fr2, .int .i64 code] 38)
  have Cd := hide (hC.stars.kept Zd)
  have Bd := hide (below_call (below_call (unhide Bc) hx) Zd)
  have Wd := hide (((unhide Wc).kept hx).kept Zd)
  have Dd := hide (((unhide Dc).kept hx).kept Zd)
  have Gd := hide (((unhide Gc).kept hx).kept Zd)
  have Md := hide (((unhide Mc).kept hx).kept Zd)
  have Hd := tkO_new wd (.slice ad L2.length capd) lim2 mode2 A2 B2 C2 D2 coast2 fr2 code 38
  clear hx hC Zd Bc Wc Dc Gc Mc Oc
  obtain ⟨⟨g0, g1, g2, g3, g4, g5, g6, g7, g8⟩, g9⟩ := Hd
  obtain ⟨⟨q0, q1, q2, q3, q4, q5, q6, q7, q8⟩, q9⟩ := unhide Wd
  go_wp2_with fail
  clear g0 g1 g2 g3 g4 g5 g6 g7 g8 g9 q0 q1 q2 q3 q4 q5 q6 q7 q8 q9
  generalize hVd : wd.alloc (.cells #[.slice ad L2.length capd, .int .i64 lim2, .int .i64 mode2, .int .i64 A2, .int .i64 B2, .int .i64 C2, .int .i64 D2, .int .i64 coast2, .int .i64 fr2, .int .i64 code] 38) = Vd at *
  clear hVd
  refine (eqTrackerOut_same L2 L2.length lim2 mode2 A2 B2 C2 D2 coast2 fr2 code ad a3 capd cap3 _ hn2 (unhide Cd) (unhide Dd)).mono ?_
  rintro e we ⟨rfl, hx⟩
  have Be := hide (below_call (unhide Bd) hx)
  have Ge := hide ((unhide Gd).kept hx)
  have Me := hide ((unhide Md).kept hx)
  clear hx Bd Wd Dd Gd Md Cd
  obtain ⟨⟨g0, g1, g2, g3, g4, g5, g6, g7, g8⟩, g9⟩ := unhide Ge
  go_wp2_with fail
  clear g0 g1 g2 g3 g4 g5 g6 g7 g8 g9
  refine (unhide cH _ (unhide Me)).mono ?_
  rintro e wf ⟨rfl, hx⟩
  have Bf := hide (below_call (unhide Be) hx)
  clear hx
  go_wp2_with fail
  go_ret
  exact ⟨rfl, unhide Bf⟩
set_option maxRecDepth 100000 in
theorem lawNew_big (n : Nat) (lim : Int) (a : Option Addr) (c : Nat) (w : World) (hn : 1048576 < n) (hm : n ≤ 9223372036854775807) :
    Calls Tryd.prog 4 #[.slice a n c, .int .i64 lim] w fun e w' => e = .returned (.bool true) ∧ Below w.heap.size w w' := by
  go_enter Tryd.func4, Tryd.ntmps4
  go_wp2_with fail
  refine (szStarS_big a n c _ hn hm).mono ?_
  rintro e w1 ⟨rfl, hw⟩
  rw [hw]
  go_wp2_with fail
  go_ret
  exact ⟨rfl, Below.refl _ _⟩
theorem lawNew_all (L : List St) (a : Option Addr) (len cap : Nat) (hl : L.length = len) (hm : len ≤ maxLen) (lim : Int) (w : World) (hS : Stars w a L len) (hE : ∃ p, ErrSky p w) :
    Calls Tryd.prog 4 #[.slice a len cap, .int .i64 lim] w fun e w' => e = .returned (.bool true) ∧ Below w.heap.size w w' := by
  obtain ⟨p, hp⟩ := hE
  subst hl
  have hm' : maxLen ≤ 9223372036854775807 := by decide +kernel
  by_cases h : L.length ≤ 1048576
  · exact lawNew L lim a cap p w h hS hp
  · exact lawNew_big L.length lim a cap w (by omega) (by omega)
end Go.Proofs.YtdclojpgbekmeaaDoor
