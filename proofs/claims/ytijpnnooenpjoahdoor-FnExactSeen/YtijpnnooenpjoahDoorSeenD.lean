/- The law on Seen, walked. -/
import Derived.Test.YtijpnnooenpjoahDoorSeenC
import Derived.Test.YtijpnnooenpjoahDoorMarkS
import Derived.Test.YtijpnnooenpjoahDoorMarkI
namespace Go.Proofs.YtijpnnooenpjoahDoor
open Go.RowKit Go.Sort
set_option linter.unusedVariables false

def intF (xs : List Int) (j : Nat) : Int := xs.getD j 0
theorem own_full {w : World} {B : Nat} {v : Value} {xs : List Int} (h : w.ownsRow B 2 1 v xs.length (ints xs)) (hx : xs.length ≠ 0) : ∃ g cap, v = .slice (some ⟨g, 0, none⟩) xs.length cap ∧ B ≤ g ∧ RowAt w 2 g (xs.length * 1) (intF xs) := by
  rcases h.2 with ⟨_, h0⟩ | ⟨g, cap, cur, hv, hb, hg, _, _, _, htake⟩
  · exact absurd h0 hx
  · refine ⟨g, cap, hv, hb, cur, hg, fun j hj => ?_⟩
    have hj' : j < xs.length := by omega
    have e : (cur.toList.take (xs.length * 1))[j]? = (ints xs)[j]? := by rw [htake]
    rw [List.getElem?_take, if_pos (by omega)] at e
    have e2 : cur[j]? = (ints xs)[j]? := by rw [← e]; simp
    rw [e2]
    unfold ints intF
    rw [List.getElem?_map, List.getElem?_eq_getElem hj', List.getD_eq_getElem?_getD, List.getElem?_eq_getElem hj']
    rfl
theorem own_bare {w : World} {B : Nat} {v : Value} {xs : List Int} (h : w.ownsRow B 2 1 v xs.length (ints xs)) (hx : xs.length = 0) : ∃ a cap, v = .slice a 0 cap := by
  rcases h.2 with ⟨h1, _⟩ | ⟨g, cap, cur, hv, _⟩
  · exact ⟨_, _, h1⟩
  · exact ⟨_, _, by rw [hv, hx]⟩

set_option maxRecDepth 100000 in
theorem eqInts_none (a a' : Option Addr) (c c' : Nat) (w : World) :
    Calls Tryd.prog 18 #[.slice a 0 c, .slice a' 0 c'] w fun e w' => e = .returned (.bool true) ∧ w' = w := by
  go_enter Tryd.func18, Tryd.ntmps18
  go_wp2_with fail
  refine wp_loop_rounds 1 ?_
  rw [rounds_succ]
  go_wp2_with fail
  go_ret
  exact ⟨rfl, rfl⟩
set_option maxHeartbeats 1000000 in
set_option maxRecDepth 100000 in
theorem eqInts_same (n c c' g g' : Nat) (f : Nat → Int) (w : World) (hn : n ≤ 1048576) (h : RowAt w 2 g (n * 1) f) (h' : RowAt w 2 g' (n * 1) f) :
    Calls Tryd.prog 18 #[.slice (some ⟨g, 0, none⟩) n c, .slice (some ⟨g', 0, none⟩) n c'] w fun e w' => e = .returned (.bool true) ∧ Below w.heap.size w w' := by
  have HR := hide h
  have HR' := hide h'
  clear h h'
  go_enter Tryd.func18, Tryd.ntmps18
  go_wp2_with fail
  go_loopw [5] (fun i wr => ∃ k : Nat, k ≤ n ∧ i = .int .i64 k ∧ Hid (Below w.heap.size w wr)) (fun i _ => n - (intOf i).toNat)
  case atStart => exact ⟨0, by omega, rfl, hide (Below.refl _ _)⟩
  case round =>
    obtain ⟨k, hk, rfl, HB⟩ := hrel
    by_cases hkn : k < n
    · have c0 := ((unhide HR).kept (unhide HB)).cell (j := k) (by omega)
      have d0 := ((unhide HR').kept (unhide HB)).cell (j := k) (by omega)
      have r0 := cell_regrown c0
      have r1 := cell_regrown d0
      generalize f k = y at c0 d0 r0 r1
      have hkn2 : (k : Int) < (n : Int) := by omega
      clear c0 d0
      go_wp2_with fail
      refine wp_region_quiet_below (by kernel_rfl) (by kernel_rfl) ?_
      repeat (go_big_quiet_step (fail))
      refine wpQuiet_nil ?_
      intro _ hw'
      obtain ⟨⟨dq, osq⟩, hw''⟩ := hw'
      subst hw''
      have hx := below_call (unhide HB) (below_regrown wr dq osq)
      generalize grow (redrawn wr dq) osq = W2 at hx ⊢
      have HB2 := hide hx
      clear hx r0 r1 HB
      go_wp2_with fail
      go_roundw
      case rel => exact ⟨k + 1, by omega, by go_num, HB2⟩
      case measure => simp [intOf]; omega
    · have hkn' : k = n := by omega
      subst hkn'
      go_wp2_with fail
      go_ret
      exact ⟨rfl, unhide HB⟩
set_option maxRecDepth 100000 in
theorem toTurn_any (p q r s : Int) (w : World) :
    Calls Tryd.prog 16 #[.agg #[.int .i64 p, .int .i64 q, .int .i64 r, .int .i64 s]] w fun e w' => e = .returned (.agg #[.int .i64 p, .int .i64 q, .int .i64 r, .int .i64 s]) ∧ Below w.heap.size w w' := by
  go_enter Tryd.func16, Tryd.ntmps16
  go_wp2
  exact bodyPost_ret (v := .agg #[.int .i64 p, .int .i64 q, .int .i64 r, .int .i64 s]) (by simp [results, Tryd.results16, go_sem]) rfl ⟨rfl, below3 _ _ _ _⟩
theorem row_of_own {w : World} {b n : Nat} {L : List St} (h : OwnS w b n L n) : ∃ f, RowAt w 54 b (n * 4) f := by
  obtain ⟨cur, hc, hn, hs⟩ := h
  refine ⟨fun j => match cur[j]? with | some (.int _ v) => v | _ => 0, cur, hc, fun j hj => ?_⟩
  obtain ⟨h0, h1, h2, h3⟩ := hs (j / 4) (by omega)
  have hm : j = j / 4 * 4 ∨ j = j / 4 * 4 + 1 ∨ j = j / 4 * 4 + 2 ∨ j = j / 4 * 4 + 3 := by omega
  have e : ∃ z : Int, cur[j]? = some (.int .i64 z) := by
    rcases hm with e | e | e | e
    · exact ⟨_, by rw [e]; exact h0⟩
    · exact ⟨_, by rw [e]; exact h1⟩
    · exact ⟨_, by rw [e]; exact h2⟩
    · exact ⟨_, by rw [e]; exact h3⟩
  obtain ⟨z, hz⟩ := e
  simp only [hz]

theorem kDrewB {B : Nat} {w W wn : World} (h : Below B w W) (hb : B ≤ W.heap.size) (hx : Below W.drew.heap.size W.drew wn) : Below B w wn := h.drew.trans (hx.mono hb)
theorem kDrewT {W wn : World} {b : Nat} {p q r s : Int} (h : TurnAt W b p q r s) (hx : Below W.drew.heap.size W.drew wn) : TurnAt wn b p q r s := TurnAt.kept (show TurnAt W.drew b p q r s from h) h.lt hx
theorem kDrewR {W wn : World} {t : TypeId} {g m : Nat} {f : Nat → Int} (h : RowAt W t g m f) (hx : Below W.drew.heap.size W.drew wn) : RowAt wn t g m f := RowAt.kept (show RowAt W.drew t g m f from h) hx

set_option maxHeartbeats 8000000 in
set_option maxRecDepth 100000 in
theorem lawSeen_full (L : List St) (ar : Option Addr) (cap : Nat) (a b c d cone : Int) (p : Addr) (w : World) (hn : L.length ≤ 1048576) (hx0 : (seenL L a b c d cone).length ≠ 0) (hxn : (seenL L a b c d cone).length ≤ 12) (hS : Stars w ar L L.length) (hE : ErrSky p w) :
    Calls Tryd.prog 4 #[.slice ar L.length cap, .agg #[.int .i64 a, .int .i64 b, .int .i64 c, .int .i64 d], .int .i64 cone] w fun e w' => e = .returned (.bool true) ∧ Below w.heap.size w w' := by
  have HS := hide hS
  have HE := hide hE
  clear hS hE
  have cT := hide (fun W hW => toStarS_any L ar cap W hn hW)
  obtain ⟨m, f, hm, cS, cR⟩ : ∃ (m : Nat) (f : Nat → Int), m ≤ 12 ∧ Hid (∀ (W : World) (q k0 : Nat), Stars W (some ⟨q, 0, none⟩) L L.length → Calls Tryd.prog 15 #[.slice (some ⟨q, 0, none⟩) L.length k0, .agg #[.int .i64 a, .int .i64 b, .int .i64 c, .int .i64 d], .int .i64 cone] W fun e w' => ∃ g k, e = .returned (.slice (some ⟨g, 0, none⟩) m k) ∧ (W.heap.size + 1 ≤ g ∧ RowAt w' 2 g (m * 1) f) ∧ Below W.heap.size W w') ∧ Hid (∀ (W : World) (q : Nat), Stars W (some ⟨q, 0, none⟩) L L.length → ErrSky p W → Calls Tryd.prog 17 #[.slice (some ⟨q, 0, none⟩) L.length L.length, .agg #[.int .i64 a, .int .i64 b, .int .i64 c, .int .i64 d], .int .i64 cone] W fun e w' => ∃ g k, e = .returned (.slice (some ⟨g, 0, none⟩) m k) ∧ (W.heap.size + 1 ≤ g ∧ RowAt w' 2 g (m * 1) f) ∧ Below W.heap.size W w') := by
    refine ⟨_, intF (seenL L a b c d cone), hxn, hide (fun W q k0 hW => (specSeen_any L a b c d cone _ k0 W hn hW).mono fun e w' h => ?_), hide (fun W q hW hE => (seen_any L a b c d cone _ _ p W hn (Nat.le_refl _) (by omega) hW hE).mono fun e w' h => ?_)⟩
    all_goals
      obtain ⟨v, he, ho, hb⟩ := h
      obtain ⟨g, k, hv, h1, h2⟩ := own_full ho hx0
      exact ⟨g, k, by rw [he, hv], ⟨h1, h2⟩, hb⟩
  clear hx0 hxn
  generalize L.length = n at *
  have h0 : ¬ (1048576 : Int) - (n : Int) < 0 := by omega
  have HB := hide (below1 w (.cells #[.int .i64 a, .int .i64 b, .int .i64 c, .int .i64 d] 38))
  have HA := hide (turnAt_new w a b c d 38)
  go_enter Tryd.func4, Tryd.ntmps4
  go_wp2_with fail
  refine (szStarS_any ar n cap _ hn).mono ?_
  rintro e w1 ⟨rfl, hw⟩
  rw [hw]
  clear hw w1
  go_wp2_with fail
  generalize w.alloc (.cells #[.int .i64 a, .int .i64 b, .int .i64 c, .int .i64 d] 38) = W0 at HB HA ⊢
  go_cut [8] (fun s wx => ∃ g k, s = .slice (some ⟨g, 0, none⟩) m k ∧ Hid (w.heap.size + 1 ≤ g ∧ RowAt wx 2 g (m * 1) f) ∧ Hid (Below w.heap.size w wx) ∧ Hid (TurnAt wx w.heap.size a b c d))
  case first =>
    obtain ⟨d0, d1, d2, d3⟩ := unhide HA
    go_region_with (first | (go_at_call 7; refine (unhide cT _ ?_).mono ?_; (first | exact (unhide HS).kept (unhide HB) | exact (unhide HS).kept (unhide HB).drew); rintro e wn ⟨rfl, ho, hx⟩; have OS := hide ho; clear ho; have HBn : Hid (Below w.heap.size w wn) := (by first | exact hide (kDrewB (unhide HB) (unhide HB).size hx) | exact hide (below_call (unhide HB) hx)); have HAn : Hid (TurnAt wn w.heap.size a b c d) := (by first | exact hide (kDrewT (unhide HA) hx) | exact hide ((unhide HA).kept (unhide HA).lt hx)); replace HB := HBn; replace HA := HAn; clear HBn HAn; clear hx; obtain ⟨d0, d1, d2, d3⟩ := unhide HA) | (go_at_call 16; refine (toTurn_any a b c d _).mono ?_; rintro e wn ⟨rfl, hx⟩; (try replace OS := hide ((unhide OS).kept hx)); have HBn : Hid (Below w.heap.size w wn) := (by first | exact hide (kDrewB (unhide HB) (unhide HB).size hx) | exact hide (below_call (unhide HB) hx)); have HAn : Hid (TurnAt wn w.heap.size a b c d) := (by first | exact hide (kDrewT (unhide HA) hx) | exact hide ((unhide HA).kept (unhide HA).lt hx)); replace HB := HBn; replace HA := HAn; clear HBn HAn; clear hx; obtain ⟨d0, d1, d2, d3⟩ := unhide HA) | (go_at_call 15; refine (unhide cS _ _ n ?_).mono ?_; exact (unhide OS).stars; rintro e wn ⟨g, k, rfl, hr, hx⟩; have hl := (unhide HA).lt; have hr1 := hr.1; have GR : Hid (w.heap.size + 1 ≤ g ∧ RowAt wn 2 g (m * 1) f) := hide ⟨by omega, hr.2⟩; clear hr hr1 hl; have HBn : Hid (Below w.heap.size w wn) := (by first | exact hide (kDrewB (unhide HB) (unhide HB).size hx) | exact hide (below_call (unhide HB) hx)); have HAn : Hid (TurnAt wn w.heap.size a b c d) := (by first | exact hide (kDrewT (unhide HA) hx) | exact hide ((unhide HA).kept (unhide HA).lt hx)); replace HB := HBn; replace HA := HAn; clear HBn HAn; clear hx))
    all_goals (go_wp2_with fail; go_meet)
    all_goals (exact ⟨_, _, rfl, GR, HB, HA⟩)
  case rest =>
  obtain ⟨p0, p0k, rfl, Gp0', HB', HA'⟩ := hcut
  replace HB := HB'
  replace HA := HA'
  have Gp0 := Gp0'
  clear Gp0'
  clear HB' HA'
  have va := unhide HA
  obtain ⟨d0, d1, d2, d3⟩ := va
  go_wp2_with fail
  refine (unhide cT _ ((unhide HS).kept (unhide HB))).mono ?_
  rintro e w3 ⟨rfl, ho3, hx⟩
  have HB3 := hide (below_call (unhide HB) hx)
  have HA3 := hide ((unhide HA).kept (unhide HA).lt hx)
  have P3 := hide ((unhide Gp0).2.kept hx)
  have l0 := (unhide Gp0).1
  have l1 : p0 < wc.heap.size := (unhide Gp0).2.lt
  have O3 := hide ho3
  have lA : w.heap.size < wc.heap.size := (unhide HA).lt
  generalize wc.heap.size = b3 at O3 lA l1 ⊢
  clear hx ho3 HB HA d0 d1 d2 d3 Gp0
  obtain ⟨d0, d1, d2, d3⟩ := unhide HA3
  go_wp2_with fail
  refine (toTurn_any a b c d _).mono ?_
  rintro e w4 ⟨rfl, hx⟩
  have HB4 := hide (below_call (unhide HB3) hx)
  have HA4 := hide ((unhide HA3).kept (unhide HA3).lt hx)
  have O4 := hide ((unhide O3).kept hx)
  have P4 := hide ((unhide P3).kept hx)
  clear P3
  clear hx HB3 HA3 O3 d0 d1 d2 d3
  go_wp2_with fail
  refine (unhide cR _ b3 (unhide O4).stars ((unhide HE).kept (unhide HB4))).mono ?_
  rintro e w5 ⟨q0, qk, rfl, hr, hx⟩
  have Q5 := hide hr.2
  have l2 : b3 < q0 := by have := hr.1; have := (unhide O4).lt; omega
  have P5 := hide ((unhide P4).kept hx)
  clear P4 hr
  have HB5 := hide (below_call (unhide HB4) hx)
  have HA5 := hide ((unhide HA4).kept (unhide HA4).lt hx)
  have O5 := hide ((unhide O4).kept hx)
  clear hx HB4 HA4 O4
  go_wp2_with fail
  refine (eqInts_same m qk p0k q0 p0 f _ (by omega) (unhide Q5) (unhide P5)).mono ?_
  rintro e w6 ⟨rfl, hx⟩
  have HB6 := hide (below_call (unhide HB5) hx)
  have HA6 := hide ((unhide HA5).kept (unhide HA5).lt hx)
  have O6 := hide ((unhide O5).kept hx)
  have Q6 := hide ((unhide Q5).kept hx)
  have P6 := hide ((unhide P5).kept hx)
  clear hx HB5 HA5 O5 Q5 P5
  go_wp2_with fail
  refine (unhide cT _ ((unhide HS).kept (unhide HB6))).mono ?_
  rintro e w7 ⟨rfl, ho, hx⟩
  have OT := hide ho
  clear ho
  generalize w6.heap.size = bt at OT ⊢
  have HB7 := hide (below_call (unhide HB6) hx)
  have HA7 := hide ((unhide HA6).kept (unhide HA6).lt hx)
  have O7 := hide ((unhide O6).kept hx)
  have Q7 := hide ((unhide Q6).kept hx)
  have P7 := hide ((unhide P6).kept hx)
  clear hx HB6 HA6 O6 Q6 P6
  go_wp2_with fail
  refine (eqStarS_same L n (some ⟨b3, 0, none⟩) (some ⟨bt, 0, none⟩) n n _ hn (unhide O7).stars (unhide OT).stars).mono ?_
  rintro e w8 ⟨rfl, hx⟩
  clear OT
  have HB8 := hide (below_call (unhide HB7) hx)
  have HA8 := hide ((unhide HA7).kept (unhide HA7).lt hx)
  have O8 := hide ((unhide O7).kept hx)
  have Q8 := hide ((unhide Q7).kept hx)
  have P8 := hide ((unhide P7).kept hx)
  clear hx HB7 HA7 O7 Q7 P7
  go_wp2_with fail
  obtain ⟨fs, hfs⟩ := row_of_own (unhide O8)
  refine (markStarS_any n n b3 fs _ hn hfs).mono ?_
  rintro e w9 ⟨rfl, _, hg⟩
  have HB9 := hide (grownBelow (unhide HB8) (by have := (unhide HA8).lt; omega) hg (by omega))
  have HA9 := hide ((unhide HA8).grown hg (by simp; omega))
  have Q9 := hide ((unhide Q8).same (hg.block q0 (unhide Q8).lt (by simp; omega)))
  have P9 := hide ((unhide P8).same (hg.block p0 (unhide P8).lt (by simp; omega)))
  clear hg hfs HB8 HA8 O8 Q8 P8
  have hk0 : ¬ (1 + (n : Int) * 4) < 0 := by omega
  have hk1 : decide ((1 + (n : Int) * 4) < 0) = false := by simp; omega
  go_wp2_with fail
  refine (eqInts_same m qk p0k q0 p0 f _ (by omega) (unhide Q9) (unhide P9)).mono ?_
  rintro e w10 ⟨rfl, hx⟩
  have HB10 := hide (below_call (unhide HB9) hx)
  have HA10 := hide ((unhide HA9).kept (unhide HA9).lt hx)
  have Q10 := hide ((unhide Q9).kept hx)
  have P10 := hide ((unhide P9).kept hx)
  clear hx HB9 HA9 Q9 P9
  go_wp2_with fail
  refine (markInt64S_any m qk q0 f _ (by omega) (unhide Q10)).mono ?_
  rintro e w11 ⟨rfl, hr, hg⟩
  have K11 := hide hr
  have HB11 := hide (grownBelow (unhide HB10) (by have := (unhide HA10).lt; omega) hg (by omega))
  have HA11 := hide ((unhide HA10).grown hg (by simp; omega))
  have P11 := hide ((unhide P10).same (hg.block p0 (unhide P10).lt (by simp; omega)))
  clear hr hg HB10 HA10 Q10 P10
  have hm0 : ¬ (1 + (m : Int) * 1) < 0 := by omega
  go_wp2_with fail
  refine (heldInt64S_any m qk q0 _ (by omega) (unhide K11)).mono ?_
  rintro e wh ⟨rfl, hw⟩
  rw [hw]
  clear hw wh
  go_wp2_with fail
  have HB := HB11
  have HA := HA11
  clear HB11 HA11
  have PP := P11
  have KK := K11
  clear P11 K11
  go_cut [14] (fun s wx => ∃ g k, s = .slice (some ⟨g, 0, none⟩) m k ∧ Hid (w.heap.size + 1 ≤ g ∧ RowAt wx 2 g (m * 1) f) ∧ Hid (Below w.heap.size w wx) ∧ Hid (TurnAt wx w.heap.size a b c d) ∧ Hid (RowAt wx 2 p0 (m * 1) f) ∧ Hid (RowAt wx 2 q0 (m * 1) (fun j => 1 + (j : Int))))
  case first =>
    obtain ⟨d0, d1, d2, d3⟩ := unhide HA
    go_region_with (first | (go_at_call 7; refine (unhide cT _ ?_).mono ?_; (first | exact (unhide HS).kept (unhide HB) | exact (unhide HS).kept (unhide HB).drew); rintro e wn ⟨rfl, ho, hx⟩; have OS := hide ho; clear ho; have HBn : Hid (Below w.heap.size w wn) := (by first | exact hide (kDrewB (unhide HB) (unhide HB).size hx) | exact hide (below_call (unhide HB) hx)); have HAn : Hid (TurnAt wn w.heap.size a b c d) := (by first | exact hide (kDrewT (unhide HA) hx) | exact hide ((unhide HA).kept (unhide HA).lt hx)); replace HB := HBn; replace HA := HAn; clear HBn HAn; have PPn : Hid (RowAt wn 2 p0 (m * 1) f) := (by first | exact hide (kDrewR (unhide PP) hx) | exact hide ((unhide PP).kept hx)); replace PP := PPn; clear PPn; have KKn : Hid (RowAt wn 2 q0 (m * 1) (fun j => 1 + (j : Int))) := (by first | exact hide (kDrewR (unhide KK) hx) | exact hide ((unhide KK).kept hx)); replace KK := KKn; clear KKn; clear hx; obtain ⟨d0, d1, d2, d3⟩ := unhide HA) | (go_at_call 16; refine (toTurn_any a b c d _).mono ?_; rintro e wn ⟨rfl, hx⟩; (try replace OS := hide ((unhide OS).kept hx)); have HBn : Hid (Below w.heap.size w wn) := (by first | exact hide (kDrewB (unhide HB) (unhide HB).size hx) | exact hide (below_call (unhide HB) hx)); have HAn : Hid (TurnAt wn w.heap.size a b c d) := (by first | exact hide (kDrewT (unhide HA) hx) | exact hide ((unhide HA).kept (unhide HA).lt hx)); replace HB := HBn; replace HA := HAn; clear HBn HAn; have PPn : Hid (RowAt wn 2 p0 (m * 1) f) := (by first | exact hide (kDrewR (unhide PP) hx) | exact hide ((unhide PP).kept hx)); replace PP := PPn; clear PPn; have KKn : Hid (RowAt wn 2 q0 (m * 1) (fun j => 1 + (j : Int))) := (by first | exact hide (kDrewR (unhide KK) hx) | exact hide ((unhide KK).kept hx)); replace KK := KKn; clear KKn; clear hx; obtain ⟨d0, d1, d2, d3⟩ := unhide HA) | (go_at_call 17; refine (unhide cR _ _ ?_ ?_).mono ?_; exact (unhide OS).stars; exact (unhide HE).kept (unhide HB); rintro e wn ⟨g, k, rfl, hr, hx⟩; have hl := (unhide HA).lt; have hr1 := hr.1; have GR : Hid (w.heap.size + 1 ≤ g ∧ RowAt wn 2 g (m * 1) f) := hide ⟨by omega, hr.2⟩; clear hr hr1 hl; have HBn : Hid (Below w.heap.size w wn) := (by first | exact hide (kDrewB (unhide HB) (unhide HB).size hx) | exact hide (below_call (unhide HB) hx)); have HAn : Hid (TurnAt wn w.heap.size a b c d) := (by first | exact hide (kDrewT (unhide HA) hx) | exact hide ((unhide HA).kept (unhide HA).lt hx)); replace HB := HBn; replace HA := HAn; clear HBn HAn; have PPn : Hid (RowAt wn 2 p0 (m * 1) f) := (by first | exact hide (kDrewR (unhide PP) hx) | exact hide ((unhide PP).kept hx)); replace PP := PPn; clear PPn; have KKn : Hid (RowAt wn 2 q0 (m * 1) (fun j => 1 + (j : Int))) := (by first | exact hide (kDrewR (unhide KK) hx) | exact hide ((unhide KK).kept hx)); replace KK := KKn; clear KKn; clear hx))
    all_goals (go_wp2_with fail; go_meet)
    all_goals (exact ⟨_, _, rfl, GR, HB, HA, PP, KK⟩)
  case rest =>
  obtain ⟨r0, r0k, rfl, Gr0', HB', HA', PP', KK'⟩ := hcut
  replace HB := HB'
  replace HA := HA'
  replace PP := PP'
  replace KK := KK'
  have Gr0 := Gr0'
  clear Gr0'
  clear HB' HA' PP' KK'
  go_wp2_with fail
  refine (eqInts_same m r0k p0k r0 p0 f _ (by omega) (unhide Gr0).2 (unhide PP)).mono ?_
  rintro e w20 ⟨rfl, hx⟩
  have HBz := hide (below_call (unhide HB) hx)
  have KZ := hide ((unhide KK).kept hx)
  clear hx
  go_wp2_with fail
  refine (heldInt64S_any m qk q0 _ (by omega) (unhide KZ)).mono ?_
  rintro e wh ⟨rfl, hw⟩
  rw [hw]
  clear hw wh
  go_wp2_with fail
  go_ret
  exact ⟨rfl, unhide HBz⟩
set_option maxHeartbeats 8000000 in
set_option maxRecDepth 100000 in
theorem lawSeen_bare (L : List St) (ar : Option Addr) (cap : Nat) (a b c d cone : Int) (p : Addr) (w : World) (hn : L.length ≤ 1048576) (hx0 : (seenL L a b c d cone).length = 0) (hxn : (seenL L a b c d cone).length ≤ 12) (hS : Stars w ar L L.length) (hE : ErrSky p w) :
    Calls Tryd.prog 4 #[.slice ar L.length cap, .agg #[.int .i64 a, .int .i64 b, .int .i64 c, .int .i64 d], .int .i64 cone] w fun e w' => e = .returned (.bool true) ∧ Below w.heap.size w w' := by
  have HS := hide hS
  have HE := hide hE
  clear hS hE
  have cT := hide (fun W hW => toStarS_any L ar cap W hn hW)
  obtain ⟨cS, cR⟩ : Hid (∀ (W : World) (q k0 : Nat), Stars W (some ⟨q, 0, none⟩) L L.length → Calls Tryd.prog 15 #[.slice (some ⟨q, 0, none⟩) L.length k0, .agg #[.int .i64 a, .int .i64 b, .int .i64 c, .int .i64 d], .int .i64 cone] W fun e w' => (∃ q k, e = .returned (.slice q 0 k)) ∧ Below W.heap.size W w') ∧ Hid (∀ (W : World) (q : Nat), Stars W (some ⟨q, 0, none⟩) L L.length → ErrSky p W → Calls Tryd.prog 17 #[.slice (some ⟨q, 0, none⟩) L.length L.length, .agg #[.int .i64 a, .int .i64 b, .int .i64 c, .int .i64 d], .int .i64 cone] W fun e w' => (∃ q k, e = .returned (.slice q 0 k)) ∧ Below W.heap.size W w') := by
    refine ⟨hide (fun W q k0 hW => (specSeen_any L a b c d cone _ k0 W hn hW).mono fun e w' h => ?_), hide (fun W q hW hE => (seen_any L a b c d cone _ _ p W hn (Nat.le_refl _) (by omega) hW hE).mono fun e w' h => ?_)⟩
    all_goals
      obtain ⟨v, he, ho, hb⟩ := h
      obtain ⟨g, k, hv⟩ := own_bare ho hx0
      exact ⟨⟨g, k, by rw [he, hv]⟩, hb⟩
  clear hx0 hxn
  generalize L.length = n at *
  have h0 : ¬ (1048576 : Int) - (n : Int) < 0 := by omega
  have HB := hide (below1 w (.cells #[.int .i64 a, .int .i64 b, .int .i64 c, .int .i64 d] 38))
  have HA := hide (turnAt_new w a b c d 38)
  go_enter Tryd.func4, Tryd.ntmps4
  go_wp2_with fail
  refine (szStarS_any ar n cap _ hn).mono ?_
  rintro e w1 ⟨rfl, hw⟩
  rw [hw]
  clear hw w1
  go_wp2_with fail
  generalize w.alloc (.cells #[.int .i64 a, .int .i64 b, .int .i64 c, .int .i64 d] 38) = W0 at HB HA ⊢
  go_cut [8] (fun s wx => (∃ q k, s = .slice q 0 k) ∧ Hid (Below w.heap.size w wx) ∧ Hid (TurnAt wx w.heap.size a b c d))
  case first =>
    obtain ⟨d0, d1, d2, d3⟩ := unhide HA
    go_region_with (first | (go_at_call 7; refine (unhide cT _ ?_).mono ?_; (first | exact (unhide HS).kept (unhide HB) | exact (unhide HS).kept (unhide HB).drew); rintro e wn ⟨rfl, ho, hx⟩; have OS := hide ho; clear ho; have HBn : Hid (Below w.heap.size w wn) := (by first | exact hide (kDrewB (unhide HB) (unhide HB).size hx) | exact hide (below_call (unhide HB) hx)); have HAn : Hid (TurnAt wn w.heap.size a b c d) := (by first | exact hide (kDrewT (unhide HA) hx) | exact hide ((unhide HA).kept (unhide HA).lt hx)); replace HB := HBn; replace HA := HAn; clear HBn HAn; clear hx; obtain ⟨d0, d1, d2, d3⟩ := unhide HA) | (go_at_call 16; refine (toTurn_any a b c d _).mono ?_; rintro e wn ⟨rfl, hx⟩; (try replace OS := hide ((unhide OS).kept hx)); have HBn : Hid (Below w.heap.size w wn) := (by first | exact hide (kDrewB (unhide HB) (unhide HB).size hx) | exact hide (below_call (unhide HB) hx)); have HAn : Hid (TurnAt wn w.heap.size a b c d) := (by first | exact hide (kDrewT (unhide HA) hx) | exact hide ((unhide HA).kept (unhide HA).lt hx)); replace HB := HBn; replace HA := HAn; clear HBn HAn; clear hx; obtain ⟨d0, d1, d2, d3⟩ := unhide HA) | (go_at_call 15; refine (unhide cS _ _ n ?_).mono ?_; exact (unhide OS).stars; rintro e wn ⟨⟨q, k, rfl⟩, hx⟩; have HBn : Hid (Below w.heap.size w wn) := (by first | exact hide (kDrewB (unhide HB) (unhide HB).size hx) | exact hide (below_call (unhide HB) hx)); have HAn : Hid (TurnAt wn w.heap.size a b c d) := (by first | exact hide (kDrewT (unhide HA) hx) | exact hide ((unhide HA).kept (unhide HA).lt hx)); replace HB := HBn; replace HA := HAn; clear HBn HAn; clear hx))
    all_goals (go_wp2_with fail; go_meet)
    all_goals (exact ⟨⟨_, _, rfl⟩, HB, HA⟩)
  case rest =>
  obtain ⟨⟨p0, p0k, rfl⟩, HB', HA'⟩ := hcut
  replace HB := HB'
  replace HA := HA'
  clear HB' HA'
  have va := unhide HA
  obtain ⟨d0, d1, d2, d3⟩ := va
  go_wp2_with fail
  refine (unhide cT _ ((unhide HS).kept (unhide HB))).mono ?_
  rintro e w3 ⟨rfl, ho3, hx⟩
  have HB3 := hide (below_call (unhide HB) hx)
  have HA3 := hide ((unhide HA).kept (unhide HA).lt hx)
  have O3 := hide ho3
  have lA : w.heap.size < wc.heap.size := (unhide HA).lt
  generalize wc.heap.size = b3 at O3 lA ⊢
  clear hx ho3 HB HA d0 d1 d2 d3
  obtain ⟨d0, d1, d2, d3⟩ := unhide HA3
  go_wp2_with fail
  refine (toTurn_any a b c d _).mono ?_
  rintro e w4 ⟨rfl, hx⟩
  have HB4 := hide (below_call (unhide HB3) hx)
  have HA4 := hide ((unhide HA3).kept (unhide HA3).lt hx)
  have O4 := hide ((unhide O3).kept hx)
  clear hx HB3 HA3 O3 d0 d1 d2 d3
  go_wp2_with fail
  refine (unhide cR _ b3 (unhide O4).stars ((unhide HE).kept (unhide HB4))).mono ?_
  rintro e w5 ⟨⟨q0, qk, rfl⟩, hx⟩
  have HB5 := hide (below_call (unhide HB4) hx)
  have HA5 := hide ((unhide HA4).kept (unhide HA4).lt hx)
  have O5 := hide ((unhide O4).kept hx)
  clear hx HB4 HA4 O4
  go_wp2_with fail
  refine (eqInts_none _ _ _ _ _).mono ?_
  rintro e w6 ⟨rfl, hw⟩
  rw [hw]
  clear hw w6
  have HB6 := HB5
  have HA6 := HA5
  have O6 := O5
  clear HB5 HA5 O5
  go_wp2_with fail
  refine (unhide cT _ ((unhide HS).kept (unhide HB6))).mono ?_
  rintro e w7 ⟨rfl, ho, hx⟩
  have OT := hide ho
  clear ho
  generalize w5.heap.size = bt at OT ⊢
  have HB7 := hide (below_call (unhide HB6) hx)
  have HA7 := hide ((unhide HA6).kept (unhide HA6).lt hx)
  have O7 := hide ((unhide O6).kept hx)
  clear hx HB6 HA6 O6
  go_wp2_with fail
  refine (eqStarS_same L n (some ⟨b3, 0, none⟩) (some ⟨bt, 0, none⟩) n n _ hn (unhide O7).stars (unhide OT).stars).mono ?_
  rintro e w8 ⟨rfl, hx⟩
  clear OT
  have HB8 := hide (below_call (unhide HB7) hx)
  have HA8 := hide ((unhide HA7).kept (unhide HA7).lt hx)
  have O8 := hide ((unhide O7).kept hx)
  clear hx HB7 HA7 O7
  go_wp2_with fail
  obtain ⟨fs, hfs⟩ := row_of_own (unhide O8)
  refine (markStarS_any n n b3 fs _ hn hfs).mono ?_
  rintro e w9 ⟨rfl, _, hg⟩
  have HB9 := hide (grownBelow (unhide HB8) (by have := (unhide HA8).lt; omega) hg (by omega))
  have HA9 := hide ((unhide HA8).grown hg (by simp; omega))
  clear hg hfs HB8 HA8 O8
  have hk0 : ¬ (1 + (n : Int) * 4) < 0 := by omega
  have hk1 : decide ((1 + (n : Int) * 4) < 0) = false := by simp; omega
  go_wp2_with fail
  refine (eqInts_none _ _ _ _ _).mono ?_
  rintro e w10 ⟨rfl, hw⟩
  rw [hw]
  clear hw w10
  have HB10 := HB9
  have HA10 := HA9
  clear HB9 HA9
  go_wp2_with fail
  refine (markInt64S_none _ _ _).mono ?_
  rintro e wh ⟨rfl, hw⟩
  rw [hw]
  clear hw wh
  go_wp2_with fail
  refine (heldInt64S_none _ _ _).mono ?_
  rintro e wh ⟨rfl, hw⟩
  rw [hw]
  clear hw wh
  go_wp2_with fail
  have HB := HB10
  have HA := HA10
  clear HB10 HA10
  go_cut [14] (fun s wx => (∃ q k, s = .slice q 0 k) ∧ Hid (Below w.heap.size w wx) ∧ Hid (TurnAt wx w.heap.size a b c d))
  case first =>
    obtain ⟨d0, d1, d2, d3⟩ := unhide HA
    go_region_with (first | (go_at_call 7; refine (unhide cT _ ?_).mono ?_; (first | exact (unhide HS).kept (unhide HB) | exact (unhide HS).kept (unhide HB).drew); rintro e wn ⟨rfl, ho, hx⟩; have OS := hide ho; clear ho; have HBn : Hid (Below w.heap.size w wn) := (by first | exact hide (kDrewB (unhide HB) (unhide HB).size hx) | exact hide (below_call (unhide HB) hx)); have HAn : Hid (TurnAt wn w.heap.size a b c d) := (by first | exact hide (kDrewT (unhide HA) hx) | exact hide ((unhide HA).kept (unhide HA).lt hx)); replace HB := HBn; replace HA := HAn; clear HBn HAn; clear hx; obtain ⟨d0, d1, d2, d3⟩ := unhide HA) | (go_at_call 16; refine (toTurn_any a b c d _).mono ?_; rintro e wn ⟨rfl, hx⟩; (try replace OS := hide ((unhide OS).kept hx)); have HBn : Hid (Below w.heap.size w wn) := (by first | exact hide (kDrewB (unhide HB) (unhide HB).size hx) | exact hide (below_call (unhide HB) hx)); have HAn : Hid (TurnAt wn w.heap.size a b c d) := (by first | exact hide (kDrewT (unhide HA) hx) | exact hide ((unhide HA).kept (unhide HA).lt hx)); replace HB := HBn; replace HA := HAn; clear HBn HAn; clear hx; obtain ⟨d0, d1, d2, d3⟩ := unhide HA) | (go_at_call 17; refine (unhide cR _ _ ?_ ?_).mono ?_; exact (unhide OS).stars; exact (unhide HE).kept (unhide HB); rintro e wn ⟨⟨q, k, rfl⟩, hx⟩; have HBn : Hid (Below w.heap.size w wn) := (by first | exact hide (kDrewB (unhide HB) (unhide HB).size hx) | exact hide (below_call (unhide HB) hx)); have HAn : Hid (TurnAt wn w.heap.size a b c d) := (by first | exact hide (kDrewT (unhide HA) hx) | exact hide ((unhide HA).kept (unhide HA).lt hx)); replace HB := HBn; replace HA := HAn; clear HBn HAn; clear hx))
    all_goals (go_wp2_with fail; go_meet)
    all_goals (exact ⟨⟨_, _, rfl⟩, HB, HA⟩)
  case rest =>
  obtain ⟨⟨r0, r0k, rfl⟩, HB', HA'⟩ := hcut
  replace HB := HB'
  replace HA := HA'
  clear HB' HA'
  go_wp2_with fail
  refine (eqInts_none _ _ _ _ _).mono ?_
  rintro e wh ⟨rfl, hw⟩
  rw [hw]
  clear hw wh
  go_wp2_with fail
  refine (heldInt64S_none _ _ _).mono ?_
  rintro e wh ⟨rfl, hw⟩
  rw [hw]
  clear hw wh
  go_wp2_with fail
  go_ret
  exact ⟨rfl, unhide HB⟩
set_option maxRecDepth 100000 in
theorem lawSeen_big (n : Nat) (ar : Option Addr) (cap : Nat) (a b c d cone : Int) (w : World) (hn : 1048576 < n) (hm : n ≤ 9223372036854775807) :
    Calls Tryd.prog 4 #[.slice ar n cap, .agg #[.int .i64 a, .int .i64 b, .int .i64 c, .int .i64 d], .int .i64 cone] w fun e w' => e = .returned (.bool true) ∧ Below w.heap.size w w' := by
  go_enter Tryd.func4, Tryd.ntmps4
  go_wp2_with fail
  refine (szStarS_big ar n cap _ hn hm).mono ?_
  rintro e w1 ⟨rfl, hw⟩
  rw [hw]
  go_wp2_with fail
  go_ret
  exact ⟨rfl, below1 _ _⟩
theorem seenL_len (L : List St) (a b c d cone : Int) : (seenL L a b c d cone).length ≤ 12 := by
  unfold seenL
  split
  · rename_i h
    simp only [Bool.and_eq_true] at h
    have h1 := (sky_ok h.1.1).1
    have h2 := seenTo_len L a b c d cone L.length
    omega
  · simp
theorem lawSeen_all (L : List St) (ar : Option Addr) (len cap : Nat) (hl : L.length = len) (hm : len ≤ maxLen) (a b c d cone : Int) (w : World) (hS : Stars w ar L len) (hE : ∃ p, ErrSky p w) :
    Calls Tryd.prog 4 #[.slice ar len cap, .agg #[.int .i64 a, .int .i64 b, .int .i64 c, .int .i64 d], .int .i64 cone] w fun e w' => e = .returned (.bool true) ∧ Below w.heap.size w w' := by
  obtain ⟨p, hp⟩ := hE
  subst hl
  have hm' : maxLen ≤ 9223372036854775807 := by decide +kernel
  by_cases h : L.length ≤ 1048576
  · by_cases h0 : (seenL L a b c d cone).length = 0
    · exact lawSeen_bare L ar cap a b c d cone p w h h0 (seenL_len _ _ _ _ _ _) hS hp
    · exact lawSeen_full L ar cap a b c d cone p w h h0 (seenL_len _ _ _ _ _ _) hS hp
  · exact lawSeen_big L.length ar cap a b c d cone w (by omega) (by omega)
end Go.Proofs.YtijpnnooenpjoahDoor
