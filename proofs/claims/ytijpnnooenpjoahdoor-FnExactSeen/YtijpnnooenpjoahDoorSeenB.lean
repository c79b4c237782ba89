/- Seen: the program's and the specification's. -/
import Derived.Test.YtijpnnooenpjoahDoorSeenA
namespace Go.Proofs.YtijpnnooenpjoahDoor
open Go.RowKit Go.Sort
set_option linter.unusedVariables false

theorem grownOfBelow {w w' : World} (h : Below w.heap.size w w') : w.grownBy w' none := ⟨h.os, h.tape, h.output, h.size, fun k hk _ => h.block k hk⟩
theorem ownKept {w w' : World} {B : Nat} {t : TypeId} {v : Value} {n m : Nat} {xs : List Value} (h : w.ownsRow B t m v n xs) (hB : Below w.heap.size w w') : w'.ownsRow B t m v n xs :=
  h.kept (grownOfBelow hB) (by cases hv : v.ownBlock <;> simp)
theorem TurnAt.grown {w w' : World} {b : Nat} {p q r s : Int} {row : Option Nat} (h : TurnAt w b p q r s) (hg : w.grownBy w' row) (hne : some b ≠ row) : TurnAt w' b p q r s := by
  obtain ⟨h0, h1, h2, h3⟩ := h
  exact ⟨hg.cell h0 hne, hg.cell h1 hne, hg.cell h2 hne, hg.cell h3 hne⟩
theorem cone_right {s : St} {a b c d : Int} (cone : Int) (ht : rightT a b c d = true) (hs : smallB s.2.1 s.2.2.1 s.2.2.2 = true) :
    apR a b c d s.2.1 s.2.2.1 s.2.2.2 = true := by
  have hw : wideB s.2.1 s.2.2.1 s.2.2.2 = true := by
    obtain ⟨h1, h2⟩ := small_iff hs
    have := withinB_iff.1 h2
    unfold wideB
    rw [h1]
    have h3 : withinB 1800 s.2.1 s.2.2.1 s.2.2.2 = true := withinB_iff.2 ⟨by omega, by omega, by omega⟩
    rw [h3]
    rfl
  unfold apR
  rw [ht, hw]
  rfl

set_option maxHeartbeats 4000000 in
set_option maxRecDepth 100000 in
theorem seen_any (L : List St) (a b c d cone : Int) (ar : Option Addr) (cap : Nat) (p : Addr) (w : World) (hn : L.length ≤ 1048576) (hcap : L.length ≤ cap) (hc9 : cap ≤ 9223372036854775807) (hS : Stars w ar L L.length) (hE : ErrSky p w) :
    Calls Tryd.prog 17 #[.slice ar L.length cap, .agg #[.int .i64 a, .int .i64 b, .int .i64 c, .int .i64 d], .int .i64 cone] w fun e w' => ∃ v, e = .returned v ∧ w'.ownsRow (w.heap.size + 1) 2 1 v (seenL L a b c d cone).length (ints (seenL L a b c d cone)) ∧ Below w.heap.size w w' := by
  have cS := hide (fun (W : World) hW hE => skyRight_any L ar cap p W hn hcap hc9 hW hE)
  have HS := hide hS
  have HE := hide hE
  clear hS hE
  have HV := hide (show seenL L a b c d cone = if (skyB L && rightT a b c d && (decide (0 ≤ cone) && decide (cone ≤ 100))) = true then seenTo L a b c d cone L.length else [] from rfl)
  have H12 : Hid (skyB L = true → L.length ≤ 12 ∧ okTo L L.length) := hide (fun h => sky_ok h)
  generalize L.length = n at *
  obtain ⟨i0, hi, hz0, hz1, hz2⟩ := info_parts info_int
  have HB := hide (below1 w (.cells #[.int .i64 a, .int .i64 b, .int .i64 c, .int .i64 d] 41))
  have HA := hide (turnAt_new w a b c d 41)
  go_enter Tryd.func17, Tryd.ntmps17
  go_wp2_with fail
  refine (unhide cS _ ((unhide HS).kept (unhide HB)) ((unhide HE).kept (unhide HB))).mono ?_
  rintro e w1 ⟨rfl, hx⟩
  have HB1 := hide (below_call (unhide HB) hx)
  have HA1 := hide ((unhide HA).kept (by simp) hx)
  clear hx HB HA
  cases hk : skyB L
  · rw [hk] at HV
    clear hk
    go_wp2_with fail
    go_ret
    exact ⟨_, rfl, by rw [unhide HV]; exact World.ownsRow_nil _ _ _ _, unhide HB1⟩
  obtain ⟨h12, hok⟩ := unhide H12 hk
  have HO := hide hok
  rw [hk] at HV
  clear hk hok
  have va := unhide HA1
  obtain ⟨c0, c1, c2, c3⟩ := va
  go_wp2_with fail
  refine (turnRight_any a b c d _).mono ?_
  rintro e w2 ⟨rfl, hx⟩
  have HB2 := hide (below_call (unhide HB1) hx)
  have HA2 := hide ((unhide HA1).kept (unhide HA1).lt hx)
  clear hx HB1 HA1 c0 c1 c2 c3
  cases hr : rightT a b c d
  · rw [hr] at HV
    clear hr
    go_wp2_with fail
    go_ret
    exact ⟨_, rfl, by rw [unhide HV]; exact World.ownsRow_nil _ _ _ _, unhide HB2⟩
  rw [hr] at HV
  by_cases hc0 : cone < 0
  · have hd : decide (0 ≤ cone) = false := by simp; omega
    rw [hd] at HV
    clear hd hr
    go_wp2_with fail
    go_ret
    exact ⟨_, rfl, by rw [unhide HV]; exact World.ownsRow_nil _ _ _ _, unhide HB2⟩
  by_cases hc1 : 100 < cone
  · have hd : decide (cone ≤ 100) = false := by simp; omega
    rw [hd, Bool.and_false] at HV
    have hc0' : decide (cone < 0) = false := by simpa using hc0
    clear hd hr
    go_wp2_with fail
    go_ret
    exact ⟨_, rfl, by rw [unhide HV]; exact World.ownsRow_nil _ _ _ _, unhide HB2⟩
  have hd0 : decide (0 ≤ cone) = true := by simp; omega
  have hd1 : decide (cone ≤ 100) = true := by simp; omega
  rw [hd0, hd1] at HV
  have HV' : Hid (seenL L a b c d cone = seenTo L a b c d cone n) := hide (by rw [unhide HV]; rfl)
  have HR := hide hr
  have hc0' : decide (cone < 0) = false := by simpa using hc0
  clear HV hd0 hd1 hr
  rcases unhide HS with rfl | ⟨b0, o, rfl, hb, hc⟩
  · go_wp2_with fail
    refine wp_loop_rounds 1 ?_
    rw [rounds_succ]
    go_wp2_with fail
    go_ret
    exact ⟨_, rfl, by rw [unhide HV']; exact World.ownsRow_nil _ _ _ _, unhide HB2⟩
  have HC := hide hc
  clear hc
  go_wp2_with fail
  clear hc0' hc0 hc1
  go_loopw [7, 28] (fun v i wr => ∃ k : Nat, k ≤ n ∧ i = .int .i64 k ∧ Hid (wr.ownsRow (w.heap.size + 1) 2 1 v (seenTo L a b c d cone k).length (ints (seenTo L a b c d cone k))) ∧ Hid (Below w.heap.size w wr) ∧ Hid (TurnAt wr w.heap.size a b c d)) (fun _ i _ => n - (intOf i).toNat)
  case atStart => exact ⟨0, by omega, rfl, hide (World.ownsRow_nil _ _ _ _), HB2, HA2⟩
  case round =>
    clear HB2 HA2
    obtain ⟨k, hk, rfl, HW, HB, HA⟩ := hrel
    by_cases hkn : k < n
    · obtain ⟨⟨s1, s2, s3, s4⟩, hs⟩ : ∃ s, stA L k = s := ⟨_, rfl⟩
      have hst := ((unhide HC) k hkn).kept hb (unhide HB)
      have hsm := ok_small ((unhide HO) k hkn)
      rw [hs] at hst hsm
      obtain ⟨c0, c1, c2, c3⟩ := hst
      have hap : apR a b c d s2 s3 s4 = true := cone_right (s := (s1, s2, s3, s4)) cone (unhide HR) hsm
      have cA : Hid (∀ W : World, Calls Tryd.prog 39 #[.agg #[.int .i64 a, .int .i64 b, .int .i64 c, .int .i64 d], .agg #[.int .i64 s2, .int .i64 s3, .int .i64 s4]] W fun e w' => e = .returned (.agg #[.int .i64 (apX a b c d s2 s3 s4), .int .i64 (apY a b c d s2 s3 s4), .int .i64 (apZ a b c d s2 s3 s4)]) ∧ Below W.heap.size W w') := hide (fun W => (apply_any a b c d s2 s3 s4 W).mono fun e w' h => ⟨by rw [h.1, hap]; rfl, h.2⟩)
      have HQ : Hid (coneS (stA L k) a b c d cone = coneB (apX a b c d s2 s3 s4) (apY a b c d s2 s3 s4) (apZ a b c d s2 s3 s4) cone) := hide (by rw [hs]; rfl)
      have HT := hide hs
      generalize apX a b c d s2 s3 s4 = x at cA HQ
      generalize apY a b c d s2 s3 s4 = y at cA HQ
      generalize apZ a b c d s2 s3 s4 = z at cA HQ
      clear hs hsm hap
      have B1 := hide ((unhide HB).alloc (unhide HB).size (.cells #[.int .i64 s1, .int .i64 s2, .int .i64 s3, .int .i64 s4] 54))
      have A1 := hide ((unhide HA).alloc (.cells #[.int .i64 s1, .int .i64 s2, .int .i64 s3, .int .i64 s4] 54))
      have N1 := hide (starAt_new wr (s1, s2, s3, s4) 54)
      have W1 := hide ((unhide HW).alloc (.cells #[.int .i64 s1, .int .i64 s2, .int .i64 s3, .int .i64 s4] 54))
      obtain ⟨d0, d1, d2, d3⟩ := unhide A1
      go_wp2_with fail
      clear c0 c1 c2 c3 d0 d1 d2 d3 HW HB HA
      generalize wr.alloc (.cells #[.int .i64 s1, .int .i64 s2, .int .i64 s3, .int .i64 s4] 54) = V1 at B1 A1 N1 W1 ⊢
      generalize wr.heap.size = bs at N1 ⊢
      refine (unhide cA _).mono ?_
      rintro e V2 ⟨rfl, hx⟩
      have B2 := hide (below_call (unhide B1) hx)
      have A2 := hide ((unhide A1).kept (unhide A1).lt hx)
      have N2 := hide ((unhide N1).kept (World.block_lt_of_cell? _ _ (unhide N1).1) hx)
      have W2 := hide (ownKept (unhide W1) hx)
      clear hx B1 A1 N1 W1 cA
      go_wp2_with fail
      refine (inCone_any x y z cone _).mono ?_
      rintro e V3 ⟨rfl, hx⟩
      have B3 := hide (below_call (unhide B2) hx)
      have A3 := hide ((unhide A2).kept (unhide A2).lt hx)
      have N3 := hide ((unhide N2).kept (World.block_lt_of_cell? _ _ (unhide N2).1) hx)
      have hown := ownKept (unhide W2) hx
      clear hx B2 A2 N2 W2
      rw [← unhide HQ]
      have hlen := seenTo_len L a b c d cone k
      cases hq : coneS (stA L k) a b c d cone
      · have HE2 : Hid (seenTo L a b c d cone (k + 1) = seenTo L a b c d cone k) := hide (by show (if _ then _ else _) = _; rw [hq]; rfl)
        have W3 := hide hown
        clear hown hq
        go_wp2_with fail
        go_roundw
        case rel => exact ⟨k + 1, by omega, by go_num, by rw [unhide HE2]; exact W3, B3, A3⟩
        case measure => simp [intOf]; omega
      · have HE2 : Hid (seenTo L a b c d cone (k + 1) = seenTo L a b c d cone k ++ [s1]) := hide (by show (if _ then _ else _) = _; rw [hq, unhide HT]; rfl)
        clear hq
        obtain ⟨e0, _, _, _⟩ := unhide N3
        have hsz := (unhide B3).size
        have hbl : w.heap.size < V3.heap.size := (unhide A3).lt
        go_wp2_with (at_builtin; refine wpList_append_own _ rfl _ _ 39 rfl (w.heap.size + 1) 2 i0 (.int .i64 0) 1 8 Tryd.underlying39 hi hz0 hz1 hz2 rfl (by decide) _ _ _ rfl (hown.alloc _) ⟨V3.heap.size, 0, none⟩ 1 1 [.int .i64 s1] rfl rfl ?c1 ?c2 ?c3 ?c4 ?c5 ?_)
        case c1 =>
          intro j x hj
          match j, hj with
          | 0, hj => simp at hj; subst hj; simp [Addr.add]
        case c2 => intro x hx; simp at hx; subst hx; rfl
        case c3 => unfold maxLen; omega
        case c4 => omega
        case c5 => simp; omega
        intro v' V4 hown' hgrow _
        have hne : some w.heap.size ≠ u7.ownBlock := fun e => by have := (hown.lt _ e.symm).1; omega
        have A4 := hide (((unhide A3).alloc (.cells #[.int .i64 s1] 2)).grown hgrow hne)
        have B4 := hide (grownOwn (w2 := V4) ((unhide B3).alloc (unhide B3).size (.cells #[.int .i64 s1] 2)) (by simp; omega) (World.ownsRow_weak (hown.alloc (.cells #[.int .i64 s1] 2))) hgrow)
        have W4 : Hid (V4.ownsRow (w.heap.size + 1) 2 1 v' (seenTo L a b c d cone (k + 1)).length (ints (seenTo L a b c d cone (k + 1)))) := hide (by rw [unhide HE2]; simpa [ints] using hown')
        clear hown' hown hgrow hne A3 B3 N3 e0
        go_wp2_with fail
        go_roundw
        case rel => exact ⟨k + 1, by omega, by go_num, W4, B4, A4⟩
        case measure => simp [intOf]; omega
    · have hkn' : k = n := by omega
      subst hkn'
      go_wp2_with fail
      go_ret
      exact ⟨_, rfl, by rw [unhide HV']; exact unhide HW, unhide HB⟩
end Go.Proofs.YtijpnnooenpjoahDoor
