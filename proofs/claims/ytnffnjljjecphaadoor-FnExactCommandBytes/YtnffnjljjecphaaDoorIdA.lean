/- Spots in memory; whether one of them is the same way as a direction; SpotsRight: the program's. -/
import Derived.Test.YtnffnjljjecphaaDoorIdM
import Derived.Test.YtnffnjljjecphaaDoorVecH
import Derived.Test.YtnffnjljjecphaaDoorVecI
import Derived.Test.YtnffnjljjecphaaDoorWideT
import Derived.Lib.QuietBelow
import Derived.Deep.QuietTactic
import Derived.BigQuiet
namespace Go.Proofs.YtnffnjljjecphaaDoor
open Go.RowKit Go.Sort
set_option linter.unusedVariables false

def DirAt (w : World) (b o : Nat) (v : D3) : Prop := w.cell? ⟨b, o, none⟩ = some (.int .i64 v.1) ∧ w.cell? ⟨b, o + 1, none⟩ = some (.int .i64 v.2.1) ∧ w.cell? ⟨b, o + 2, none⟩ = some (.int .i64 v.2.2)
/-- the first n directions of L lie at a -/
def Dirs (w : World) (a : Option Addr) (L : List D3) (n : Nat) : Prop := n = 0 ∨ ∃ b o, a = some ⟨b, o, none⟩ ∧ b < w.heap.size ∧ ∀ i, i < n → DirAt w b (o + i * 3) (vA L i)
theorem DirAt.kept {w w' : World} {b o : Nat} {s : D3} (h : DirAt w b o s) (hb : b < w.heap.size) (hB : Below w.heap.size w w') : DirAt w' b o s := by
  obtain ⟨h0, h1, h2⟩ := h
  exact ⟨by rw [hB.cell (p := ⟨b, o, none⟩) hb]; exact h0, by rw [hB.cell (p := ⟨b, o + 1, none⟩) hb]; exact h1, by rw [hB.cell (p := ⟨b, o + 2, none⟩) hb]; exact h2⟩
theorem Dirs.kept {w w' : World} {a : Option Addr} {L : List D3} {n : Nat} (h : Dirs w a L n) (hB : Below w.heap.size w w') : Dirs w' a L n := by
  rcases h with h | ⟨b, o, ha, hb, hc⟩
  · exact .inl h
  · exact .inr ⟨b, o, ha, Nat.lt_of_lt_of_le hb hB.size, fun i hi => (hc i hi).kept hb hB⟩
theorem Dirs.less {w : World} {a : Option Addr} {L : List D3} {n m : Nat} (h : Dirs w a L n) (hm : m ≤ n) : Dirs w a L m := by
  rcases h with h | ⟨b, o, ha, hb, hc⟩
  · exact .inl (by omega)
  · exact .inr ⟨b, o, ha, hb, fun i hi => hc i (by omega)⟩
theorem vltD {w : World} {b : Nat} {x y z : Int} (h : VecAt w b x y z) : b < w.heap.size := World.block_lt_of_cell? w _ h.1

set_option maxHeartbeats 1000000 in
set_option maxRecDepth 100000 in
theorem isAmong_any (L : List D3) (n : Nat) (x y z : Int) (a : Option Addr) (c : Nat) (w : World) (hn : n ≤ 1048576) (hS : Dirs w a L n) :
    Calls Tryd.prog 103 #[.agg #[.int .i64 x, .int .i64 y, .int .i64 z], .slice a n c] w fun e w' => e = .returned (.bool (amongB L (x, y, z) n)) ∧ Below w.heap.size w w' := by
  rcases hS with rfl | ⟨b, o, rfl, hb, hc⟩
  · go_enter Tryd.func103, Tryd.ntmps103
    go_wp2_with fail
    refine wp_loop_rounds 1 ?_
    rw [rounds_succ]
    go_wp2_with fail
    go_ret
    exact ⟨rfl, below1 _ _⟩
  · have HC := hide hc
    clear hc
    have V0 := hide (vecAt_new w x y z 75)
    have B0 := hide (below1 w (.cells #[.int .i64 x, .int .i64 y, .int .i64 z] 75))
    go_enter Tryd.func103, Tryd.ntmps103
    go_wp2_with fail
    go_loopw [9] (fun i wr => ∃ k : Nat, k ≤ n ∧ i = .int .i64 k ∧ Hid (asideTo L (x, y, z) k) ∧ Hid (Below w.heap.size w wr) ∧ Hid (VecAt wr w.heap.size x y z)) (fun i _ => n - (intOf i).toNat)
    case atStart => exact ⟨0, by omega, rfl, hide (fun j hj => absurd hj (Nat.not_lt_zero _)), B0, V0⟩
    case round =>
      obtain ⟨k, hk, rfl, HF, HB, HV⟩ := hrel
      by_cases hkn : k < n
      · obtain ⟨⟨s2, s3, s4⟩, hs⟩ : ∃ s, vA L k = s := ⟨_, rfl⟩
        have hst := ((unhide HC) k hkn).kept hb (unhide HB)
        rw [hs] at hst
        obtain ⟨c0, c1, c2⟩ := hst
        have HS := hide hs
        clear hs
        have V1 := hide (VecAt.alloc (unhide HV) (vltD (unhide HV)) (.cells #[.int .i64 s2, .int .i64 s3, .int .i64 s4] 75))
        have B1 := hide ((unhide HB).alloc (unhide HB).size (.cells #[.int .i64 s2, .int .i64 s3, .int .i64 s4] 75))
        obtain ⟨v0, v1, v2⟩ := unhide V1
        go_wp2_with fail
        refine (sameWay_any x y z s2 s3 s4 _).mono ?_
        rintro e w2 ⟨rfl, hx⟩
        have HV2 := hide ((unhide V1).kept (vltD (unhide V1)) hx)
        have HB2 := hide (below_call (unhide B1) hx)
        clear hx c0 c1 c2 v0 v1 v2 V1 B1 HB HV
        have HR : Hid (sameD (x, y, z) (vA L k) = sameB x y z s2 s3 s4) := hide (by rw [unhide HS]; rfl)
        cases hq : sameB x y z s2 s3 s4
        · rw [hq] at HR
          go_wp2_with fail
          go_roundw
          case rel => exact ⟨k + 1, by omega, by go_num, hide (aside_step (unhide HF) (unhide HR)), HB2, HV2⟩
          case measure => simp [intOf]; omega
        · rw [hq] at HR
          go_wp2_with fail
          go_ret
          exact ⟨by rw [among_yes hkn (unhide HR)]; rfl, unhide HB2⟩
      · have hkn' : k = n := by omega
        subst hkn'
        go_wp2_with fail
        go_ret
        exact ⟨by rw [among_no (unhide HF)]; rfl, unhide HB⟩

set_option maxHeartbeats 2000000 in
set_option maxRecDepth 100000 in
theorem spotsRight_any (L : List D3) (a : Option Addr) (c : Nat) (w : World) (hn : L.length ≤ 1048576) (hcap : L.length ≤ c) (hc9 : c ≤ 9223372036854775807) (hS : Dirs w a L L.length) :
    Calls Tryd.prog 70 #[.slice a L.length c] w fun e w' => e = .returned (.bool (spotsB L)) ∧ Below w.heap.size w w' := by
  obtain ⟨n, hnl⟩ : ∃ n, L.length = n := ⟨_, rfl⟩
  rw [hnl] at hn hcap hS ⊢
  have HL := hide hnl
  clear hnl
  by_cases h12 : 6 < n
  · have h12' : (6 : Int) < (n : Int) := by omega
    have HO : Hid (spotsB L = false) := hide (spots_long (by rw [unhide HL]; exact h12))
    clear hS
    go_enter Tryd.func70, Tryd.ntmps70
    go_wp2
    go_ret
    exact ⟨by rw [unhide HO]; rfl, Below.refl _ _⟩
  have h12' : ¬ (6 : Int) < (n : Int) := by omega
  rcases hS with rfl | ⟨b, o, rfl, hb, hc⟩
  · have HO : Hid (spotsB L = true) := hide (spots_yes (by rw [unhide HL]; omega) (by rw [unhide HL]; intro j hj; omega))
    go_enter Tryd.func70, Tryd.ntmps70
    go_wp2_with fail
    refine wp_loop_rounds 1 ?_
    rw [rounds_succ]
    go_wp2_with fail
    go_ret
    exact ⟨by rw [unhide HO]; rfl, Below.refl _ _⟩
  have HC := hide hc
  have HS : Hid (Dirs w (some ⟨b, o, none⟩) L n) := hide (.inr ⟨b, o, rfl, hb, hc⟩)
  clear hc
  go_enter Tryd.func70, Tryd.ntmps70
  go_wp2_with fail
  go_loopw [10] (fun i wr => ∃ k : Nat, k ≤ n ∧ i = .int .i64 k ∧ Hid (okVTo L k) ∧ Hid (Below w.heap.size w wr)) (fun i _ => n - (intOf i).toNat)
  case atStart => exact ⟨0, by omega, rfl, hide (fun j hj => absurd hj (Nat.not_lt_zero _)), hide (Below.refl _ _)⟩
  case round =>
    obtain ⟨k, hk, rfl, HF, HB⟩ := hrel
    by_cases hkn : k < n
    · obtain ⟨⟨s2, s3, s4⟩, hs⟩ : ∃ s, vA L k = s := ⟨_, rfl⟩
      have hst := ((unhide HC) k hkn).kept hb (unhide HB)
      rw [hs] at hst
      obtain ⟨c0, c1, c2⟩ := hst
      have HT := hide hs
      clear hs
      have B1 := hide ((unhide HB).alloc (unhide HB).size (.cells #[.int .i64 s2, .int .i64 s3, .int .i64 s4] 75))
      have N1 := hide (vecAt_new wr s2 s3 s4 75)
      go_wp2_with fail
      clear c0 c1 c2
      have hb1 := unhide B1
      have hn1 := unhide N1
      generalize hwe : wr.alloc (.cells #[.int .i64 s2, .int .i64 s3, .int .i64 s4] 75) = W1 at hb1 hn1 ⊢
      have HB1 := hide hb1
      clear hwe hb1 B1 N1
      obtain ⟨c0, c1, c2⟩ := hn1
      have r0 := cell_regrown c0
      have r1 := cell_regrown c1
      have r2 := cell_regrown c2
      clear c0 c1 c2
      have HO : Hid (okV L k = (wideB s2 s3 s4 && !amongB L (s2, s3, s4) k)) := hide (by unfold okV wideD; rw [unhide HT])
      have cW := hide (fun W => isWide_any s2 s3 s4 W)
      have cA := hide (fun (W : World) (hW : Dirs W (some ⟨b, o, none⟩) L k) => isAmong_any L k s2 s3 s4 (some ⟨b, o, none⟩) c W (by omega) hW)
      have HSk := hide (((unhide HS).less (Nat.le_of_lt hkn)).kept (unhide HB1))
      have hkc : (k : Int) ≤ (c : Int) := by omega
      cases hwd : wideB s2 s3 s4
      · rw [hwd] at HO cW
        have HO' : Hid (okV L k = false) := HO
        refine wp_region_quiet_below (by kernel_rfl) (by kernel_rfl) ?_
        repeat (go_big_quiet_step (first | (with_reducible exact Calls.regrown_of (unhide cW _))))
        refine wpQuiet_nil ?_
        intro _ hw'
        obtain ⟨⟨dq, osq⟩, hw''⟩ := hw'
        subst hw''
        have hx := below_call (unhide HB1) (below_regrown W1 dq osq)
        generalize grow (redrawn W1 dq) osq = W2 at hx ⊢
        go_wp2_with fail
        go_ret
        exact ⟨by rw [spots_no (by rw [unhide HL]; exact hkn) (unhide HO')]; rfl, hx⟩
      · rw [hwd, Bool.true_and] at HO
        rw [hwd] at cW
        generalize amongB L (s2, s3, s4) k = am at *
        refine wp_region_quiet_below (by kernel_rfl) (by kernel_rfl) ?_
        repeat (go_big_quiet_step (first | (with_reducible exact Calls.regrown_of (unhide cW _)) | (with_reducible exact Calls.regrown_of (unhide cA _ ((unhide HSk).kept (below_regrown _ _ _))))))
        refine wpQuiet_nil ?_
        intro _ hw'
        obtain ⟨⟨dq, osq⟩, hw''⟩ := hw'
        subst hw''
        have hx := below_call (unhide HB1) (below_regrown W1 dq osq)
        generalize grow (redrawn W1 dq) osq = W2 at hx ⊢
        have HB2 := hide hx
        clear hx HB1 HB cW cA HSk r0 r1 r2
        cases am
        · have HO' : Hid (okV L k = true) := HO
          go_wp2_with fail
          go_roundw
          case rel => exact ⟨k + 1, by omega, by go_num, hide (okV_step (unhide HF) (unhide HO')), HB2⟩
          case measure => simp [intOf]; omega
        · have HO' : Hid (okV L k = false) := HO
          go_wp2_with fail
          go_ret
          exact ⟨by rw [spots_no (by rw [unhide HL]; exact hkn) (unhide HO')]; rfl, unhide HB2⟩
    · have hkn' : k = n := by omega
      have HO : Hid (spotsB L = true) := hide (spots_yes (by rw [unhide HL]; omega) (by rw [unhide HL, ← hkn']; exact unhide HF))
      go_wp2_with fail
      go_ret
      exact ⟨by rw [unhide HO]; rfl, unhide HB⟩
end Go.Proofs.YtnffnjljjecphaaDoor
