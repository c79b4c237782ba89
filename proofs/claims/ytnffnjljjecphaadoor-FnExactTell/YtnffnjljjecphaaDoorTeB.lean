/- The law on Tell, walked. -/
import Derived.Test.YtnffnjljjecphaaDoorTeA
namespace Go.Proofs.YtnffnjljjecphaaDoor
open Go.RowKit Go.Sort
set_option linter.unusedVariables false

set_option maxHeartbeats 8000000 in
set_option maxRecDepth 100000 in
theorem lawTell (L : List St) (lim mode A B C D coast fr : Int) (a : Option Addr) (c : Nat) (p : Addr) (w : World) (hn : L.length ≤ 1048576) (hS : Stars w a L L.length) (hE : ErrSky p w) :
    Calls Tryd.prog 6 #[.agg #[.slice a L.length c, .int .i64 lim, .int .i64 mode, .int .i64 A, .int .i64 B, .int .i64 C, .int .i64 D, .int .i64 coast, .int .i64 fr]] w fun e w' => e = .returned (.bool true) ∧ Below w.heap.size w w' := by
  have HS := hide hS
  have HE := hide hE
  clear hS hE
  have cT := hide (fun W hW => toTracker_any L lim mode A B C D coast fr a c W hn hW)
  obtain ⟨y, cS, cR⟩ : ∃ y : ByteArray, Hid (∀ (W : World) (b : Nat), Stars W (some ⟨b, 0, none⟩) L L.length → Calls Tryd.prog 20 #[.agg #[.slice (some ⟨b, 0, none⟩) L.length L.length, .int .i64 lim, .int .i64 mode, .int .i64 A, .int .i64 B, .int .i64 C, .int .i64 D, .int .i64 coast, .int .i64 fr]] W fun e w' => e = .returned (.string y) ∧ Below W.heap.size W w')
    ∧ Hid (∀ (W : World) (b : Nat), Stars W (some ⟨b, 0, none⟩) L L.length → ErrSky p W → Calls Tryd.prog 22 #[.agg #[.slice (some ⟨b, 0, none⟩) L.length L.length, .int .i64 lim, .int .i64 mode, .int .i64 A, .int .i64 B, .int .i64 C, .int .i64 D, .int .i64 coast, .int .i64 fr]] W fun e w' => e = .returned (.string y) ∧ Below W.heap.size W w') :=
    ⟨tellS ⟨L, lim, mode, A, B, C, D, coast, fr⟩, hide (fun W b hW => specTell_any L lim mode A B C D coast fr _ _ W hn hW), hide (fun W b hW hE => implTell_any L lim mode A B C D coast fr _ _ p W hn (Nat.le_refl _) (by omega) hW hE)⟩
  generalize L.length = n at *
  have h0 : ¬ (1048576 : Int) - (n : Int) < 0 := by omega
  have hyy : (y.toList == y.toList) = true := by simp
  have B0 := hide (below1 w (.cells #[.slice a n c, .int .i64 lim, .int .i64 mode, .int .i64 A, .int .i64 B, .int .i64 C, .int .i64 D, .int .i64 coast, .int .i64 fr] 48))
  have T0 := hide (tkAt_new w (.slice a n c) lim mode A B C D coast fr 48)
  go_enter Tryd.func6, Tryd.ntmps6
  go_wp2_with fail
  refine (szTracker_any a n c lim mode A B C D coast fr _ hn).mono ?_
  rintro e w1 ⟨rfl, hx⟩
  have B1 := hide (below_call (unhide B0) hx)
  have T1 := hide ((unhide T0).kept hx)
  clear hx B0 T0
  obtain ⟨q0, q1, q2, q3, q4, q5, q6, q7, q8⟩ := unhide T1
  go_wp2_with fail
  clear q0 q1 q2 q3 q4 q5 q6 q7 q8
  refine (unhide cT _ ((unhide HS).kept (unhide B1))).mono ?_
  rintro e w2 ⟨b2, rfl, ho, hb2, hx⟩
  have O2 := hide ho
  have B2 := hide (below_call (unhide B1) hx)
  have T2 := hide ((unhide T1).kept hx)
  clear hx ho hb2 B1 T1
  go_wp2_with fail
  refine (unhide cS _ b2 (unhide O2).stars).mono ?_
  rintro e w3 ⟨rfl, hx⟩
  have B3 := hide (below_call (unhide B2) hx)
  have T3 := hide ((unhide T2).kept hx)
  clear hx B2 T2 O2
  obtain ⟨q0, q1, q2, q3, q4, q5, q6, q7, q8⟩ := unhide T3
  go_wp2_with fail
  clear q0 q1 q2 q3 q4 q5 q6 q7 q8
  refine (unhide cT _ ((unhide HS).kept (unhide B3))).mono ?_
  rintro e w4 ⟨b4, rfl, ho, hb4, hx⟩
  have Z4 := below1 w4 (.cells #[.slice (some ⟨b4, 0, none⟩) n n, .int .i64 lim, .int .i64 mode, .int .i64 A, .int .i64 B, .int .i64 C, .int .i64 D, .int .i64 coast, .int .i64 fr] 53)
  have O4 := hide (ho.kept Z4)
  have B4 := hide (below_call (below_call (unhide B3) hx) Z4)
  have T4 := hide (((unhide T3).kept hx).kept Z4)
  have X4 := hide (tkAt_new w4 (.slice (some ⟨b4, 0, none⟩) n n) lim mode A B C D coast fr 53)
  clear hx ho hb4 B3 T3 Z4
  obtain ⟨q0, q1, q2, q3, q4, q5, q6, q7, q8⟩ := unhide X4
  go_wp2_with fail
  clear q0 q1 q2 q3 q4 q5 q6 q7 q8
  generalize w4.alloc (.cells #[.slice (some ⟨b4, 0, none⟩) n n, .int .i64 lim, .int .i64 mode, .int .i64 A, .int .i64 B, .int .i64 C, .int .i64 D, .int .i64 coast, .int .i64 fr] 53) = W4 at *
  generalize w4.heap.size = xb at *
  clear w4
  refine (unhide cR _ b4 (unhide O4).stars ((unhide HE).kept (unhide B4))).mono ?_
  rintro e w5 ⟨rfl, hx⟩
  have O5 := hide ((unhide O4).kept hx)
  have B5 := hide (below_call (unhide B4) hx)
  have T5 := hide ((unhide T4).kept hx)
  have X5 := hide ((unhide X4).kept hx)
  clear hx O4 B4 T4 X4
  go_wp2_with fail
  go_region_held (fun w' => ((w'.cell? ⟨w.heap.size, 0, none⟩ = some (.slice a n c) ∧ w'.cell? ⟨w.heap.size, 1, none⟩ = some (.int .i64 lim) ∧ w'.cell? ⟨w.heap.size, 2, none⟩ = some (.int .i64 mode) ∧ w'.cell? ⟨w.heap.size, 3, none⟩ = some (.int .i64 A) ∧ w'.cell? ⟨w.heap.size, 4, none⟩ = some (.int .i64 B) ∧ w'.cell? ⟨w.heap.size, 5, none⟩ = some (.int .i64 C) ∧ w'.cell? ⟨w.heap.size, 6, none⟩ = some (.int .i64 D) ∧ w'.cell? ⟨w.heap.size, 7, none⟩ = some (.int .i64 coast) ∧ w'.cell? ⟨w.heap.size, 8, none⟩ = some (.int .i64 fr)) ∧ (w'.cell? ⟨xb, 0, none⟩ = some (.slice (some ⟨b4, 0, none⟩) n n) ∧ w'.cell? ⟨xb, 1, none⟩ = some (.int .i64 lim) ∧ w'.cell? ⟨xb, 2, none⟩ = some (.int .i64 mode) ∧ w'.cell? ⟨xb, 3, none⟩ = some (.int .i64 A) ∧ w'.cell? ⟨xb, 4, none⟩ = some (.int .i64 B) ∧ w'.cell? ⟨xb, 5, none⟩ = some (.int .i64 C) ∧ w'.cell? ⟨xb, 6, none⟩ = some (.int .i64 D) ∧ w'.cell? ⟨xb, 7, none⟩ = some (.int .i64 coast) ∧ w'.cell? ⟨xb, 8, none⟩ = some (.int .i64 fr))) ∧ Below w5.heap.size w5 w') (first | (with_reducible exact holdTT (unhide T5) (unhide X5) (Below.refl _ _).drew) | (with_reducible exact holdTT (unhide T5) (unhide X5) (by assumption))) (first | (go_at_call 21; (with_reducible refine (unhide cT _ ((unhide HS).kept (below_call (unhide B5) (And.right (by assumption))))).mono ?_); rintro e wn ⟨b6, rfl, ho, hb6, hx⟩; have OT := hide ho; clear ho hb6; have hw : Below w5.heap.size w5 wn := (by first | (with_reducible exact stepTkZ hx (by assumption)) | (with_reducible exact stepTkD hx (by assumption)) | (with_reducible exact (Below.refl _ _).drew.trans (hx.mono (Nat.le_refl _))))) | (go_at_call 23; (with_reducible refine (eqTracker_same L n lim mode A B C D coast fr _ _ _ _ _ hn ((unhide O5).stars.kept (And.right (by assumption))) (unhide OT).stars).mono ?_); rintro e wn ⟨rfl, hx⟩; have hw : Below w5.heap.size w5 wn := (by first | (with_reducible exact stepTkZ hx (by assumption)) | (with_reducible exact stepTkD hx (by assumption)))))
  go_wp2_with fail
  go_ret
  exact ⟨rfl, below_call (unhide B5) hw⟩
set_option maxRecDepth 100000 in
theorem lawTell_big (n : Nat) (lim mode A B C D coast fr : Int) (a : Option Addr) (c : Nat) (w : World) (hn : 1048576 < n) (hm : n ≤ 9223372036854775807) :
    Calls Tryd.prog 6 #[.agg #[.slice a n c, .int .i64 lim, .int .i64 mode, .int .i64 A, .int .i64 B, .int .i64 C, .int .i64 D, .int .i64 coast, .int .i64 fr]] w fun e w' => e = .returned (.bool true) ∧ Below w.heap.size w w' := by
  have B0 := hide (below1 w (.cells #[.slice a n c, .int .i64 lim, .int .i64 mode, .int .i64 A, .int .i64 B, .int .i64 C, .int .i64 D, .int .i64 coast, .int .i64 fr] 48))
  go_enter Tryd.func6, Tryd.ntmps6
  go_wp2_with fail
  refine (szTracker_big a n c lim mode A B C D coast fr _ hn hm).mono ?_
  rintro e w1 ⟨rfl, hx⟩
  have B1 := hide (below_call (unhide B0) hx)
  clear hx
  go_wp2_with fail
  go_ret
  exact ⟨rfl, unhide B1⟩
theorem lawTell_all (L : List St) (a : Option Addr) (len cap : Nat) (lim mode A B C D coast fr : Int) (hl : L.length = len) (hm : len ≤ maxLen) (w : World) (hS : Stars w a L len) (hE : ∃ p, ErrSky p w) :
    Calls Tryd.prog 6 #[.agg #[.slice a len cap, .int .i64 lim, .int .i64 mode, .int .i64 A, .int .i64 B, .int .i64 C, .int .i64 D, .int .i64 coast, .int .i64 fr]] w fun e w' => e = .returned (.bool true) ∧ Below w.heap.size w w' := by
  obtain ⟨p, hp⟩ := hE
  subst hl
  have hm' : maxLen ≤ 9223372036854775807 := by decide +kernel
  by_cases h : L.length ≤ 1048576
  · exact lawTell L lim mode A B C D coast fr a cap p w h hS hp
  · exact lawTell_big L.length lim mode A B C D coast fr a cap w (by omega) (by omega)
end Go.Proofs.YtnffnjljjecphaaDoor
