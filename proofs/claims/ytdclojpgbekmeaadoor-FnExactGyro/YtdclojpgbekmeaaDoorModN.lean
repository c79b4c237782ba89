/- The law on Reset, walked. -/
import Derived.Test.YtdclojpgbekmeaaDoorModK
import Derived.Test.YtdclojpgbekmeaaDoorModF
namespace Go.Proofs.YtdclojpgbekmeaaDoor
open Go.RowKit Go.Sort
set_option linter.unusedVariables false

theorem OwnS.row {w : World} {b n : Nat} {L : List St} (h : OwnS w b n L n) : OwnR w (some ⟨b, 0, none⟩) n (some b) := by
  obtain ⟨cur, hc, hn, hs⟩ := h
  refine .inr ⟨b, fun j => match j % 4 with | 0 => (stA L (j / 4)).1 | 1 => (stA L (j / 4)).2.1 | 2 => (stA L (j / 4)).2.2.1 | _ => (stA L (j / 4)).2.2.2, rfl, rfl, cur, hc, fun j hj => ?_⟩
  obtain ⟨h0, h1, h2, h3⟩ := hs (j / 4) (by omega)
  have h4 : j % 4 = 0 ∨ j % 4 = 1 ∨ j % 4 = 2 ∨ j % 4 = 3 := by omega
  rcases h4 with h4 | h4 | h4 | h4
  · dsimp only; rw [h4]; rw [show j / 4 * 4 = j by omega] at h0; exact h0
  · dsimp only; rw [h4]; rw [show j / 4 * 4 + 1 = j by omega] at h1; exact h1
  · dsimp only; rw [h4]; rw [show j / 4 * 4 + 2 = j by omega] at h2; exact h2
  · dsimp only; rw [h4]; rw [show j / 4 * 4 + 3 = j by omega] at h3; exact h3
theorem Copied.grown {w w' : World} {B : Nat} {L : List St} {a : Option Addr} {cap : Nat} {row : Option Nat} (h : Copied w B L a cap) (hg : w.grownBy w' row) (hne : ∀ g, row = some g → g < B) : Copied w' B L a cap := by
  obtain ⟨h1, h2⟩ := h
  refine ⟨h1, ?_⟩
  rcases h2 with h2 | ⟨g, c', cur, e, hb, hh, r⟩
  · exact .inl h2
  · exact .inr ⟨g, c', cur, e, hb, by rw [hg.block g (Array.getElem?_eq_some_iff.1 hh).1 (fun e => by have := hne g e.symm; omega)]; exact hh, r⟩
/-- what lay below a bound is read on, though a block beyond it was written -/
theorem Stars.grown {w w' : World} {a : Option Addr} {L : List St} {n : Nat} {row : Option Nat} (h : Stars w a L n) (hg : w.grownBy w' row) (hne : ∀ x g, a = some x → row = some g → x.block ≠ g) : Stars w' a L n := by
  rcases h with h | ⟨b, o, rfl, hb, hc⟩
  · exact .inl h
  · refine .inr ⟨b, o, rfl, Nat.lt_of_lt_of_le hb hg.size, fun i hi => ?_⟩
    have e : w'.heap[b]? = w.heap[b]? := hg.block b hb (fun e => hne _ b rfl e.symm rfl)
    obtain ⟨c0, c1, c2, c3⟩ := hc i hi
    exact ⟨(World.cell?_of_block (a := ⟨b, _, none⟩) e).trans c0, (World.cell?_of_block (a := ⟨b, _, none⟩) e).trans c1, (World.cell?_of_block (a := ⟨b, _, none⟩) e).trans c2, (World.cell?_of_block (a := ⟨b, _, none⟩) e).trans c3⟩
theorem Copied.block {w : World} {B : Nat} {L : List St} {a : Option Addr} {cap : Nat} (h : Copied w B L a cap) (x : Addr) (e : a = some x) : B ≤ x.block ∧ x.block < w.heap.size := by
  rcases h.2 with ⟨h1, _⟩ | ⟨g, c', cur, e', hb, hh, r⟩
  · injection h1 with h1; rw [h1] at e; cases e
  · injection e' with e1; rw [e1] at e; cases e; exact ⟨hb, (Array.getElem?_eq_some_iff.1 hh).1⟩

set_option maxHeartbeats 16000000 in
set_option maxRecDepth 100000 in
theorem lawReset (L : List St) (lim mode A B C D coast fr : Int) (a : Option Addr) (c : Nat) (p : Addr) (w : World) (hn : L.length ≤ 1048576) (hS : Stars w a L L.length) (hE : ErrSky p w) :
    Calls Tryd.prog 6 #[.agg #[.slice a L.length c, .int .i64 lim, .int .i64 mode, .int .i64 A, .int .i64 B, .int .i64 C, .int .i64 D, .int .i64 coast, .int .i64 fr]] w fun e w' => e = .returned (.bool true) ∧ Below w.heap.size w w' := by
  have HS := hide hS
  have HE := hide hE
  clear hS hE
  have cT := hide (fun W hW => toTracker_any L lim mode A B C D coast fr a c W hn hW)
  obtain ⟨t2, code, hn2, cS, cR⟩ : ∃ (t2 : Tk) (code : Int), t2.L.length ≤ 1048576 ∧ Hid (∀ (W : World) (b : Nat), Stars W (some ⟨b, 0, none⟩) L L.length → Calls Tryd.prog 25 #[.agg #[.slice (some ⟨b, 0, none⟩) L.length L.length, .int .i64 lim, .int .i64 mode, .int .i64 A, .int .i64 B, .int .i64 C, .int .i64 D, .int .i64 coast, .int .i64 fr]] W fun e w' => OutT w' W.heap.size t2 code e ∧ Below W.heap.size W w')
    ∧ Hid (∀ (W : World) (b : Nat), Stars W (some ⟨b, 0, none⟩) L L.length → ErrSky p W → Calls Tryd.prog 26 #[.agg #[.slice (some ⟨b, 0, none⟩) L.length L.length, .int .i64 lim, .int .i64 mode, .int .i64 A, .int .i64 B, .int .i64 C, .int .i64 D, .int .i64 coast, .int .i64 fr]] W fun e w' => OutT w' W.heap.size t2 code e ∧ Below W.heap.size W w') :=
    ⟨resetT ⟨L, lim, mode, A, B, C, D, coast, fr⟩, resetC ⟨L, lim, mode, A, B, C, D, coast, fr⟩, by unfold resetT; split; exact hn; exact Nat.zero_le _, hide (fun W b hW => specReset_any L lim mode A B C D coast fr _ _ _ W hn hW), hide (fun W b hW hE => implReset_any L lim mode A B C D coast fr _ _ _ p W hn (Nat.le_refl _) (by omega) hE hW)⟩
  obtain ⟨L2, lim2, mode2, A2, B2, C2, D2, coast2, fr2⟩ := t2
  unfold OutT at cS cR
  dsimp only at hn2 cS cR
  generalize L.length = n at *
  have h0 : ¬ (1048576 : Int) - (n : Int) < 0 := by omega
  have B0 := hide (below1 w (.cells #[.slice a n c, .int .i64 lim, .int .i64 mode, .int .i64 A, .int .i64 B, .int .i64 C, .int .i64 D, .int .i64 coast, .int .i64 fr] 26))
  have T0 := hide (tkAt_new w (.slice a n c) lim mode A B C D coast fr 26)
  go_enter Tryd.func6, Tryd.ntmps6
  go_wp2_with fail
  refine (szTracker_any a n c lim mode A B C D coast fr _ hn).mono ?_
  rintro e w1 ⟨rfl, hx⟩
  have B1 := hide (below_call (unhide B0) hx)
  have T1 := hide ((unhide T0).kept hx)
  clear hx B0 T0
  obtain ⟨q0, q1, q2, q3, q4, q5, q6, q7, q8⟩ := unhide T1
  go_wp2_with fail
  clear q0 q1 q2 q3 q4 q5 q6 q7 q8
  refine (unhide cT _ ((unhide HS).kept (unhide B1))).mono ?_
  rintro e w2 ⟨b2, rfl, ho, hb2, hx⟩
  have O2 := hide ho
  have Y2 := hide (below_call (unhide B1) hx)
  have T2 := hide ((unhide T1).kept hx)
  clear hx ho hb2 B1 T1
  go_wp2_with fail
  refine (unhide cS _ b2 (unhide O2).stars).mono ?_
  rintro e w3 ⟨⟨a3, cap3, rfl, hC⟩, hx⟩
  have Z3 := below1 w3 (.cells #[.slice a3 L2.length cap3, .int .i64 lim2, .int .i64 mode2, .int .i64 A2, .int .i64 B2, .int .i64 C2, .int .i64 D2, .int .i64 coast2, .int .i64 fr2, .int .i64 code] 38)
  have C3 := hide (hC.kept Z3)
  have B3 := hide (below_call (below_call (unhide Y2) hx) Z3)
  have T3 := hide (((unhide T2).kept hx).kept Z3)
  have W3 := hide (tkO_new w3 (.slice a3 L2.length cap3) lim2 mode2 A2 B2 C2 D2 coast2 fr2 code 38)
  clear hx hC Y2 T2 O2 Z3
  obtain ⟨q0, q1, q2, q3, q4, q5, q6, q7, q8⟩ := unhide T3
  go_wp2_with fail
  clear q0 q1 q2 q3 q4 q5 q6 q7 q8
  generalize hV3 : w3.alloc (.cells #[.slice a3 L2.length cap3, .int .i64 lim2, .int .i64 mode2, .int .i64 A2, .int .i64 B2, .int .i64 C2, .int .i64 D2, .int .i64 coast2, .int .i64 fr2, .int .i64 code] 38) = V3 at *
  generalize hb3 : w3.heap.size = wb at *
  clear hV3 hb3
  refine (unhide cT _ ((unhide HS).kept (unhide B3))).mono ?_
  rintro e w4 ⟨b4, rfl, ho, hb4, hx⟩
  have Z4 := below1 w4 (.cells #[.slice (some ⟨b4, 0, none⟩) n n, .int .i64 lim, .int .i64 mode, .int .i64 A, .int .i64 B, .int .i64 C, .int .i64 D, .int .i64 coast, .int .i64 fr] 32)
  have O4 := hide (ho.kept Z4)
  have B4 := hide (below_call (below_call (unhide B3) hx) Z4)
  have T4 := hide (((unhide T3).kept hx).kept Z4)
  have X4 := hide (tkAt_new w4 (.slice (some ⟨b4, 0, none⟩) n n) lim mode A B C D coast fr 32)
  have W4 := hide (((unhide W3).kept hx).kept Z4)
  have C4 := hide (((unhide C3).stars.kept hx).kept Z4)
  have hr3 : ∀ x, a3 = some x → x.block < b4 := fun x e => by have := ((unhide C3).block x e).2; omega
  have hwb : wb < b4 := by have := (unhide W3).lt; omega
  have hbl : b4 < w4.heap.size := ho.lt
  have hwl : w.heap.size < b4 := by have := (unhide T3).lt; omega
  clear hx ho hb4 B3 T3 Z4 W3 C3
  obtain ⟨q0, q1, q2, q3, q4, q5, q6, q7, q8⟩ := unhide X4
  go_wp2_with fail
  clear q0 q1 q2 q3 q4 q5 q6 q7 q8
  generalize hV4 : w4.alloc (.cells #[.slice (some ⟨b4, 0, none⟩) n n, .int .i64 lim, .int .i64 mode, .int .i64 A, .int .i64 B, .int .i64 C, .int .i64 D, .int .i64 coast, .int .i64 fr] 32) = V4 at *
  generalize hx4 : w4.heap.size = xb at *
  clear hV4 hx4
  refine (unhide cR _ b4 (unhide O4).stars ((unhide HE).kept (unhide B4))).mono ?_
  rintro e w5 ⟨⟨a5, cap5, rfl, hC⟩, hx⟩
  have Z5 := below1 w5 (.cells #[.slice a5 L2.length cap5, .int .i64 lim2, .int .i64 mode2, .int .i64 A2, .int .i64 B2, .int .i64 C2, .int .i64 D2, .int .i64 coast2, .int .i64 fr2, .int .i64 code] 38)
  have C5 := hide (hC.kept Z5)
  have O5 := hide (((unhide O4).kept hx).kept Z5)
  have B5 := hide (below_call (below_call (unhide B4) hx) Z5)
  have T5 := hide (((unhide T4).kept hx).kept Z5)
  have X5 := hide (((unhide X4).kept hx).kept Z5)
  have W5 := hide (((unhide W4).kept hx).kept Z5)
  have D5 := hide (((unhide C4).kept hx).kept Z5)
  have G5 := hide (tkO_new w5 (.slice a5 L2.length cap5) lim2 mode2 A2 B2 C2 D2 coast2 fr2 code 38)
  have hxb : xb < V4.heap.size := (unhide X4).lt
  have hb4V : b4 < V4.heap.size := (unhide O4).lt
  have hgb : V4.heap.size ≤ w5.heap.size := hx.size
  have hr5 : ∀ x, a5 = some x → V4.heap.size ≤ x.block ∧ x.block < w5.heap.size := fun x e => hC.block x e
  clear hx hC O4 B4 T4 X4 W4 C4 Z5
  obtain ⟨⟨g0, g1, g2, g3, g4, g5, g6, g7, g8⟩, g9⟩ := unhide G5
  obtain ⟨⟨q0, q1, q2, q3, q4, q5, q6, q7, q8⟩, q9⟩ := unhide W5
  go_wp2_with fail
  clear g0 g1 g2 g3 g4 g5 g6 g7 g8 g9 q0 q1 q2 q3 q4 q5 q6 q7 q8 q9
  generalize hV5 : w5.alloc (.cells #[.slice a5 L2.length cap5, .int .i64 lim2, .int .i64 mode2, .int .i64 A2, .int .i64 B2, .int .i64 C2, .int .i64 D2, .int .i64 coast2, .int .i64 fr2, .int .i64 code] 38) = V5 at *
  generalize hg5 : w5.heap.size = gb at *
  clear hV5 hg5
  refine (eqTrackerOut_same L2 L2.length lim2 mode2 A2 B2 C2 D2 coast2 fr2 code a5 a3 cap5 cap3 _ hn2 (unhide C5).stars (unhide D5)).mono ?_
  rintro e w6 ⟨rfl, hx⟩
  have C6 := hide ((unhide C5).kept hx)
  have O6 := hide ((unhide O5).kept hx)
  have B6 := hide (below_call (unhide B5) hx)
  have T6 := hide ((unhide T5).kept hx)
  have X6 := hide ((unhide X5).kept hx)
  have W6 := hide ((unhide W5).kept hx)
  have D6 := hide ((unhide D5).kept hx)
  have G6 := hide ((unhide G5).kept hx)
  clear hx C5 O5 B5 T5 X5 W5 D5 G5
  go_wp2_with fail
  go_region_held (fun w' => ((w'.cell? ⟨w.heap.size, 0, none⟩ = some (.slice a n c) ∧ w'.cell? ⟨w.heap.size, 1, none⟩ = some (.int .i64 lim) ∧ w'.cell? ⟨w.heap.size, 2, none⟩ = some (.int .i64 mode) ∧ w'.cell? ⟨w.heap.size, 3, none⟩ = some (.int .i64 A) ∧ w'.cell? ⟨w.heap.size, 4, none⟩ = some (.int .i64 B) ∧ w'.cell? ⟨w.heap.size, 5, none⟩ = some (.int .i64 C) ∧ w'.cell? ⟨w.heap.size, 6, none⟩ = some (.int .i64 D) ∧ w'.cell? ⟨w.heap.size, 7, none⟩ = some (.int .i64 coast) ∧ w'.cell? ⟨w.heap.size, 8, none⟩ = some (.int .i64 fr)) ∧ (w'.cell? ⟨xb, 0, none⟩ = some (.slice (some ⟨b4, 0, none⟩) n n) ∧ w'.cell? ⟨xb, 1, none⟩ = some (.int .i64 lim) ∧ w'.cell? ⟨xb, 2, none⟩ = some (.int .i64 mode) ∧ w'.cell? ⟨xb, 3, none⟩ = some (.int .i64 A) ∧ w'.cell? ⟨xb, 4, none⟩ = some (.int .i64 B) ∧ w'.cell? ⟨xb, 5, none⟩ = some (.int .i64 C) ∧ w'.cell? ⟨xb, 6, none⟩ = some (.int .i64 D) ∧ w'.cell? ⟨xb, 7, none⟩ = some (.int .i64 coast) ∧ w'.cell? ⟨xb, 8, none⟩ = some (.int .i64 fr))) ∧ Below w6.heap.size w6 w') (first | (with_reducible exact holdTT (unhide T6) (unhide X6) (Below.refl _ _).drew) | (with_reducible exact holdTT (unhide T6) (unhide X6) (by assumption))) (first | (go_at_call 9; (with_reducible refine (unhide cT _ ((unhide HS).kept (below_call (unhide B6) (And.right (by assumption))))).mono ?_); rintro e wn ⟨b7, rfl, ho, hb7, hx⟩; have OT := hide ho; clear ho hb7; have hw : Below w6.heap.size w6 wn := (by first | (with_reducible exact stepTkZ hx (by assumption)) | (with_reducible exact stepTkD hx (by assumption)) | (with_reducible exact (Below.refl _ _).drew.trans (hx.mono (Nat.le_refl _))))) | (go_at_call 11; (with_reducible refine (eqTracker_same L n lim mode A B C D coast fr _ _ _ _ _ hn ((unhide O6).stars.kept (And.right (by assumption))) (unhide OT).stars).mono ?_); rintro e wn ⟨rfl, hx⟩; have hw : Below w6.heap.size w6 wn := (by first | (with_reducible exact stepTkZ hx (by assumption)) | (with_reducible exact stepTkD hx (by assumption)))))
  have C7 := hide ((unhide C6).kept hw)
  have O7 := hide ((unhide O6).kept hw)
  have B7 := hide (below_call (unhide B6) hw)
  have T7 := hide ((unhide T6).kept hw)
  have X7 := hide ((unhide X6).kept hw)
  have W7 := hide ((unhide W6).kept hw)
  have D7 := hide ((unhide D6).kept hw)
  have G7 := hide ((unhide G6).kept hw)
  clear OT C6 O6 B6 T6 X6 W6 D6 G6
  obtain ⟨q0, q1, q2, q3, q4, q5, q6, q7, q8⟩ := unhide X7
  go_wp2_with fail
  clear q0 q1 q2 q3 q4 q5 q6 q7 q8
  refine (markTracker_any n lim mode A B C D coast fr (some ⟨b4, 0, none⟩) n (some b4) _ hn (unhide O7).row).mono ?_
  rintro e w8 ⟨rfl, hm, hg⟩
  have B8 := hide (belowR (unhide B7) hg (unhide B7).size (fun g e => by cases e; omega))
  have T8 := hide ((unhide T7).grown hg (fun e => by have := Option.some.inj e; omega))
  have W8 := hide ((unhide W7).grown hg (fun e => by have := Option.some.inj e; omega))
  have D8 := hide ((unhide D7).grown hg (fun x g e e' => by have := hr3 x e; cases e'; omega))
  have C8 := hide ((unhide C7).grown hg (fun g e => by cases e; exact hb4V))
  have G8 := hide ((unhide G7).grown hg (fun e => by have := Option.some.inj e; omega))
  clear hm hg B7 T7 W7 D7 C7 G7 O7 X7
  obtain ⟨K1, hK1⟩ : ∃ K1 : Int, 1 + (n : Int) * 4 = K1 := ⟨_, rfl⟩
  have hk0 : ¬ K1 < 0 := by omega
  rw [hK1]
  clear hK1
  obtain ⟨⟨g0, g1, g2, g3, g4, g5, g6, g7, g8⟩, g9⟩ := unhide G8
  obtain ⟨⟨q0, q1, q2, q3, q4, q5, q6, q7, q8⟩, q9⟩ := unhide W8
  go_wp2_with fail
  clear g0 g1 g2 g3 g4 g5 g6 g7 g8 g9 q0 q1 q2 q3 q4 q5 q6 q7 q8 q9
  refine (eqTrackerOut_same L2 L2.length lim2 mode2 A2 B2 C2 D2 coast2 fr2 code a5 a3 cap5 cap3 _ hn2 (unhide C8).stars (unhide D8)).mono ?_
  rintro e w9 ⟨rfl, hx⟩
  have C9 := hide ((unhide C8).kept hx)
  have B9 := hide (below_call (unhide B8) hx)
  have T9 := hide ((unhide T8).kept hx)
  have W9 := hide ((unhide W8).kept hx)
  have D9 := hide ((unhide D8).kept hx)
  have G9 := hide ((unhide G8).kept hx)
  clear hx C8 B8 T8 W8 D8 G8
  obtain ⟨⟨g0, g1, g2, g3, g4, g5, g6, g7, g8⟩, g9⟩ := unhide G9
  go_wp2_with fail
  clear g0 g1 g2 g3 g4 g5 g6 g7 g8 g9
  obtain ⟨row, hrow, hrb⟩ := (unhide C9).row
  have hrow2 : ∀ g, row = some g → V4.heap.size ≤ g ∧ g < gb := fun g e => by
    rcases hrow with ⟨_, h⟩ | ⟨g', f, h1, h2, _⟩
    · rw [h] at e; cases e
    · rw [h2] at e
      obtain rfl := Option.some.inj e
      exact hr5 _ h1
  refine (markTrackerOut_any L2.length lim2 mode2 A2 B2 C2 D2 coast2 fr2 code a5 cap5 row _ hn2 hrow).mono ?_
  rintro e wa ⟨rfl, hm, hg⟩
  have Ba := hide (belowR (unhide B9) hg (unhide B9).size (fun g e => by have := hrow2 g e; omega))
  have Ta := hide ((unhide T9).grown hg (fun e => by have := hrow2 _ e.symm; omega))
  have Wa := hide ((unhide W9).grown hg (fun e => by have := hrow2 _ e.symm; omega))
  have Da := hide ((unhide D9).grown hg (fun x g e e' => by have := hr3 x e; have := hrow2 g e'; omega))
  have Ga := hide ((unhide G9).grown hg (fun e => by have := hrow2 _ e.symm; omega))
  have Ma := hide hm
  clear hm hg B9 T9 W9 D9 C9 G9 hrow
  obtain ⟨K2, hK2⟩ : ∃ K2 : Int, 1 + (L2.length : Int) * 4 = K2 := ⟨_, rfl⟩
  have hk2 : ¬ K2 < 0 := by omega
  have cH : Hid (∀ W : World, Mkd W a5 L2.length row → Calls Tryd.prog 20 #[.agg #[.slice a5 L2.length cap5, .int .i64 lim2, .int .i64 mode2, .int .i64 A2, .int .i64 B2, .int .i64 C2, .int .i64 D2, .int .i64 coast2, .int .i64 fr2, .int .i64 code], .int .i64 1] W fun e w' => e = .returned (.int .i64 K2) ∧ Below W.heap.size W w') := hide (fun W h => by rw [← hK2]; exact heldTrackerOut_any L2.length lim2 mode2 A2 B2 C2 D2 coast2 fr2 code a5 cap5 row W hn2 h)
  rw [hK2]
  clear hK2
  obtain ⟨⟨g0, g1, g2, g3, g4, g5, g6, g7, g8⟩, g9⟩ := unhide Ga
  go_wp2_with fail
  clear g0 g1 g2 g3 g4 g5 g6 g7 g8 g9
  refine (unhide cH _ (unhide Ma)).mono ?_
  rintro e wbx ⟨rfl, hx⟩
  have Bb := hide (below_call (unhide Ba) hx)
  have Tb := hide ((unhide Ta).kept hx)
  have Wb := hide ((unhide Wa).kept hx)
  have Db := hide ((unhide Da).kept hx)
  have Gb := hide ((unhide Ga).kept hx)
  have Mb := hide ((unhide Ma).kept hx)
  clear hx Ba Ta Wa Da Ga Ma
  obtain ⟨q0, q1, q2, q3, q4, q5, q6, q7, q8⟩ := unhide Tb
  go_wp2_with fail
  clear q0 q1 q2 q3 q4 q5 q6 q7 q8
  refine (unhide cT _ ((unhide HS).kept (unhide Bb))).mono ?_
  rintro e wc ⟨bc, rfl, ho, hbc, hx⟩
  have Oc := hide ho
  have Bc := hide (below_call (unhide Bb) hx)
  have Wc := hide ((unhide Wb).kept hx)
  have Dc := hide ((unhide Db).kept hx)
  have Gc := hide ((unhide Gb).kept hx)
  have Mc := hide ((unhide Mb).kept hx)
  clear hx ho hbc Bb Tb Wb Db Gb Mb
  go_wp2_with fail
  refine (unhide cR _ bc (unhide Oc).stars ((unhide HE).kept (unhide Bc))).mono ?_
  rintro e wd ⟨⟨ad, capd, rfl, hC⟩, hx⟩
  have Zd := below1 wd (.cells #[.slice ad L2.length capd, .int .i64 lim2, .int .i64 mode2, .int .i64 A2, .int .i64 B2, .int .i64 C2, .int .i64 D2, .int .i64 coast2, .int .i64 fr2, .int .i64 code] 38)
  have Cd := hide (hC.stars.kept Zd)
  have Bd := hide (below_call (below_call (unhide Bc) hx) Zd)
  have Wd := hide (((unhide Wc).kept hx).kept Zd)
  have Dd := hide (((unhide Dc).kept hx).kept Zd)
  have Gd := hide (((unhide Gc).kept hx).kept Zd)
  have Md := hide (((unhide Mc).kept hx).kept Zd)
  have Hd := tkO_new wd (.slice ad L2.length capd) lim2 mode2 A2 B2 C2 D2 coast2 fr2 code 38
  clear hx hC Zd Bc Wc Dc Gc Mc Oc
  obtain ⟨⟨g0, g1, g2, g3, g4, g5, g6, g7, g8⟩, g9⟩ := Hd
  obtain ⟨⟨q0, q1, q2, q3, q4, q5, q6, q7, q8⟩, q9⟩ := unhide Wd
  go_wp2_with fail
  clear g0 g1 g2 g3 g4 g5 g6 g7 g8 g9 q0 q1 q2 q3 q4 q5 q6 q7 q8 q9
  generalize hVd : wd.alloc (.cells #[.slice ad L2.length capd, .int .i64 lim2, .int .i64 mode2, .int .i64 A2, .int .i64 B2, .int .i64 C2, .int .i64 D2, .int .i64 coast2, .int .i64 fr2, .int .i64 code] 38) = Vd at *
  clear hVd
  refine (eqTrackerOut_same L2 L2.length lim2 mode2 A2 B2 C2 D2 coast2 fr2 code ad a3 capd cap3 _ hn2 (unhide Cd) (unhide Dd)).mono ?_
  rintro e we ⟨rfl, hx⟩
  have Be := hide (below_call (unhide Bd) hx)
  have Ge := hide ((unhide Gd).kept hx)
  have Me := hide ((unhide Md).kept hx)
  clear hx Bd Wd Dd Gd Md Cd
  obtain ⟨⟨g0, g1, g2, g3, g4, g5, g6, g7, g8⟩, g9⟩ := unhide Ge
  go_wp2_with fail
  clear g0 g1 g2 g3 g4 g5 g6 g7 g8 g9
  refine (unhide cH _ (unhide Me)).mono ?_
  rintro e wf ⟨rfl, hx⟩
  have Bf := hide (below_call (unhide Be) hx)
  clear hx
  go_wp2_with fail
  go_ret
  exact ⟨rfl, unhide Bf⟩
set_option maxRecDepth 100000 in
theorem lawReset_big (n : Nat) (lim mode A B C D coast fr : Int) (a : Option Addr) (c : Nat) (w : World) (hn : 1048576 < n) (hm : n ≤ 9223372036854775807) :
    Calls Tryd.prog 6 #[.agg #[.slice a n c, .int .i64 lim, .int .i64 mode, .int .i64 A, .int .i64 B, .int .i64 C, .int .i64 D, .int .i64 coast, .int .i64 fr]] w fun e w' => e = .returned (.bool true) ∧ Below w.heap.size w w' := by
  have B0 := hide (below1 w (.cells #[.slice a n c, .int .i64 lim, .int .i64 mode, .int .i64 A, .int .i64 B, .int .i64 C, .int .i64 D, .int .i64 coast, .int .i64 fr] 26))
  go_enter Tryd.func6, Tryd.ntmps6
  go_wp2_with fail
  refine (szTracker_big a n c lim mode A B C D coast fr _ hn hm).mono ?_
  rintro e w1 ⟨rfl, hx⟩
  have B1 := hide (below_call (unhide B0) hx)
  clear hx
  go_wp2_with fail
  go_ret
  exact ⟨rfl, unhide B1⟩
theorem lawReset_all (L : List St) (a : Option Addr) (len cap : Nat) (lim mode A B C D coast fr : Int) (hl : L.length = len) (hm : len ≤ maxLen) (w : World) (hS : Stars w a L len) (hE : ∃ p, ErrSky p w) :
    Calls Tryd.prog 6 #[.agg #[.slice a len cap, .int .i64 lim, .int .i64 mode, .int .i64 A, .int .i64 B, .int .i64 C, .int .i64 D, .int .i64 coast, .int .i64 fr]] w fun e w' => e = .returned (.bool true) ∧ Below w.heap.size w w' := by
  obtain ⟨p, hp⟩ := hE
  subst hl
  have hm' : maxLen ≤ 9223372036854775807 := by decide +kernel
  by_cases h : L.length ≤ 1048576
  · exact lawReset L lim mode A B C D coast fr a cap p w h hS hp
  · exact lawReset_big L.length lim mode A B C D coast fr a cap w (by omega) (by omega)
end Go.Proofs.YtdclojpgbekmeaaDoor
