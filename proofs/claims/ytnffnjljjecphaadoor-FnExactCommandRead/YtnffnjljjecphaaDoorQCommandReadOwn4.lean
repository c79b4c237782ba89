/- Several texts in one: IdA, IdB, IdC. -/
import Derived.Lib.QuietBelow
import Derived.Deep.QuietTactic
import Derived.BigQuiet
import Derived.OwnWalk
import Derived.Laws.OwnMore
import Derived.Test.YtnffnjljjecphaaDoorQCommandReadOwn2
import Derived.Test.YtnffnjljjecphaaDoorQCommandReadOwn3
namespace Go.Proofs.YtnffnjljjecphaaDoor
open Go.RowKit Go.Sort
set_option linter.unusedVariables false

def DirAt (w : World) (b o : Nat) (v : D3) : Prop := w.cell? ⟨b, o, none⟩ = some (.int .i64 v.1) ∧ w.cell? ⟨b, o + 1, none⟩ = some (.int .i64 v.2.1) ∧ w.cell? ⟨b, o + 2, none⟩ = some (.int .i64 v.2.2)
/-- the first n directions of L lie at a -/
def Dirs (w : World) (a : Option Addr) (L : List D3) (n : Nat) : Prop := n = 0 ∨ ∃ b o, a = some ⟨b, o, none⟩ ∧ b < w.heap.size ∧ ∀ i, i < n → DirAt w b (o + i * 3) (vA L i)
theorem DirAt.kept {w w' : World} {b o : Nat} {s : D3} (h : DirAt w b o s) (hb : b < w.heap.size) (hB : Below w.heap.size w w') : DirAt w' b o s := by
  obtain ⟨h0, h1, h2⟩ := h
  exact ⟨by rw [hB.cell (p := ⟨b, o, none⟩) hb]; exact h0, by rw [hB.cell (p := ⟨b, o + 1, none⟩) hb]; exact h1, by rw [hB.cell (p := ⟨b, o + 2, none⟩) hb]; exact h2⟩
theorem Dirs.kept {w w' : World} {a : Option Addr} {L : List D3} {n : Nat} (h : Dirs w a L n) (hB : Below w.heap.size w w') : Dirs w' a L n := by
  rcases h with h | ⟨b, o, ha, hb, hc⟩
  · exact .inl h
  · exact .inr ⟨b, o, ha, Nat.lt_of_lt_of_le hb hB.size, fun i hi => (hc i hi).kept hb hB⟩
theorem Dirs.less {w : World} {a : Option Addr} {L : List D3} {n m : Nat} (h : Dirs w a L n) (hm : m ≤ n) : Dirs w a L m := by
  rcases h with h | ⟨b, o, ha, hb, hc⟩
  · exact .inl (by omega)
  · exact .inr ⟨b, o, ha, hb, fun i hi => hc i (by omega)⟩
theorem vltD {w : World} {b : Nat} {x y z : Int} (h : VecAt w b x y z) : b < w.heap.size := World.block_lt_of_cell? w _ h.1

set_option maxHeartbeats 1000000 in
set_option maxRecDepth 100000 in
theorem isAmong_any (L : List D3) (n : Nat) (x y z : Int) (a : Option Addr) (c : Nat) (w : World) (hn : n ≤ 1048576) (hS : Dirs w a L n) :
    Calls Tryd.prog 103 #[.agg #[.int .i64 x, .int .i64 y, .int .i64 z], .slice a n c] w fun e w' => e = .returned (.bool (amongB L (x, y, z) n)) ∧ Below w.heap.size w w' := by
  rcases hS with rfl | ⟨b, o, rfl, hb, hc⟩
  · go_enter Tryd.func103, Tryd.ntmps103
    go_wp2_with fail
    refine wp_loop_rounds 1 ?_
    rw [rounds_succ]
    go_wp2_with fail
    go_ret
    exact ⟨rfl, below1 _ _⟩
  · have HC := hide hc
    clear hc
    have V0 := hide (vecAt_new w x y z 75)
    have B0 := hide (below1 w (.cells #[.int .i64 x, .int .i64 y, .int .i64 z] 75))
    go_enter Tryd.func103, Tryd.ntmps103
    go_wp2_with fail
    go_loopw [9] (fun i wr => ∃ k : Nat, k ≤ n ∧ i = .int .i64 k ∧ Hid (asideTo L (x, y, z) k) ∧ Hid (Below w.heap.size w wr) ∧ Hid (VecAt wr w.heap.size x y z)) (fun i _ => n - (intOf i).toNat)
    case atStart => exact ⟨0, by omega, rfl, hide (fun j hj => absurd hj (Nat.not_lt_zero _)), B0, V0⟩
    case round =>
      obtain ⟨k, hk, rfl, HF, HB, HV⟩ := hrel
      by_cases hkn : k < n
      · obtain ⟨⟨s2, s3, s4⟩, hs⟩ : ∃ s, vA L k = s := ⟨_, rfl⟩
        have hst := ((unhide HC) k hkn).kept hb (unhide HB)
        rw [hs] at hst
        obtain ⟨c0, c1, c2⟩ := hst
        have HS := hide hs
        clear hs
        have V1 := hide (VecAt.alloc (unhide HV) (vltD (unhide HV)) (.cells #[.int .i64 s2, .int .i64 s3, .int .i64 s4] 75))
        have B1 := hide ((unhide HB).alloc (unhide HB).size (.cells #[.int .i64 s2, .int .i64 s3, .int .i64 s4] 75))
        obtain ⟨v0, v1, v2⟩ := unhide V1
        go_wp2_with fail
        refine (sameWay_any x y z s2 s3 s4 _).mono ?_
        rintro e w2 ⟨rfl, hx⟩
        have HV2 := hide ((unhide V1).kept (vltD (unhide V1)) hx)
        have HB2 := hide (below_call (unhide B1) hx)
        clear hx c0 c1 c2 v0 v1 v2 V1 B1 HB HV
        have HR : Hid (sameD (x, y, z) (vA L k) = sameB x y z s2 s3 s4) := hide (by rw [unhide HS]; rfl)
        cases hq : sameB x y z s2 s3 s4
        · rw [hq] at HR
          go_wp2_with fail
          go_roundw
          case rel => exact ⟨k + 1, by omega, by go_num, hide (aside_step (unhide HF) (unhide HR)), HB2, HV2⟩
          case measure => simp [intOf]; omega
        · rw [hq] at HR
          go_wp2_with fail
          go_ret
          exact ⟨by rw [among_yes hkn (unhide HR)]; rfl, unhide HB2⟩
      · have hkn' : k = n := by omega
        subst hkn'
        go_wp2_with fail
        go_ret
        exact ⟨by rw [among_no (unhide HF)]; rfl, unhide HB⟩

set_option maxHeartbeats 2000000 in
set_option maxRecDepth 100000 in
theorem spotsRight_any (L : List D3) (a : Option Addr) (c : Nat) (w : World) (hn : L.length ≤ 1048576) (hcap : L.length ≤ c) (hc9 : c ≤ 9223372036854775807) (hS : Dirs w a L L.length) :
    Calls Tryd.prog 70 #[.slice a L.length c] w fun e w' => e = .returned (.bool (spotsB L)) ∧ Below w.heap.size w w' := by
  obtain ⟨n, hnl⟩ : ∃ n, L.length = n := ⟨_, rfl⟩
  rw [hnl] at hn hcap hS ⊢
  have HL := hide hnl
  clear hnl
  by_cases h12 : 6 < n
  · have h12' : (6 : Int) < (n : Int) := by omega
    have HO : Hid (spotsB L = false) := hide (spots_long (by rw [unhide HL]; exact h12))
    clear hS
    go_enter Tryd.func70, Tryd.ntmps70
    go_wp2
    go_ret
    exact ⟨by rw [unhide HO]; rfl, Below.refl _ _⟩
  have h12' : ¬ (6 : Int) < (n : Int) := by omega
  rcases hS with rfl | ⟨b, o, rfl, hb, hc⟩
  · have HO : Hid (spotsB L = true) := hide (spots_yes (by rw [unhide HL]; omega) (by rw [unhide HL]; intro j hj; omega))
    go_enter Tryd.func70, Tryd.ntmps70
    go_wp2_with fail
    refine wp_loop_rounds 1 ?_
    rw [rounds_succ]
    go_wp2_with fail
    go_ret
    exact ⟨by rw [unhide HO]; rfl, Below.refl _ _⟩
  have HC := hide hc
  have HS : Hid (Dirs w (some ⟨b, o, none⟩) L n) := hide (.inr ⟨b, o, rfl, hb, hc⟩)
  clear hc
  go_enter Tryd.func70, Tryd.ntmps70
  go_wp2_with fail
  go_loopw [10] (fun i wr => ∃ k : Nat, k ≤ n ∧ i = .int .i64 k ∧ Hid (okVTo L k) ∧ Hid (Below w.heap.size w wr)) (fun i _ => n - (intOf i).toNat)
  case atStart => exact ⟨0, by omega, rfl, hide (fun j hj => absurd hj (Nat.not_lt_zero _)), hide (Below.refl _ _)⟩
  case round =>
    obtain ⟨k, hk, rfl, HF, HB⟩ := hrel
    by_cases hkn : k < n
    · obtain ⟨⟨s2, s3, s4⟩, hs⟩ : ∃ s, vA L k = s := ⟨_, rfl⟩
      have hst := ((unhide HC) k hkn).kept hb (unhide HB)
      rw [hs] at hst
      obtain ⟨c0, c1, c2⟩ := hst
      have HT := hide hs
      clear hs
      have B1 := hide ((unhide HB).alloc (unhide HB).size (.cells #[.int .i64 s2, .int .i64 s3, .int .i64 s4] 75))
      have N1 := hide (vecAt_new wr s2 s3 s4 75)
      go_wp2_with fail
      clear c0 c1 c2
      have hb1 := unhide B1
      have hn1 := unhide N1
      generalize hwe : wr.alloc (.cells #[.int .i64 s2, .int .i64 s3, .int .i64 s4] 75) = W1 at hb1 hn1 ⊢
      have HB1 := hide hb1
      clear hwe hb1 B1 N1
      obtain ⟨c0, c1, c2⟩ := hn1
      have r0 := cell_regrown c0
      have r1 := cell_regrown c1
      have r2 := cell_regrown c2
      clear c0 c1 c2
      have HO : Hid (okV L k = (wideB s2 s3 s4 && !amongB L (s2, s3, s4) k)) := hide (by unfold okV wideD; rw [unhide HT])
      have cW := hide (fun W => isWide_any s2 s3 s4 W)
      have cA := hide (fun (W : World) (hW : Dirs W (some ⟨b, o, none⟩) L k) => isAmong_any L k s2 s3 s4 (some ⟨b, o, none⟩) c W (by omega) hW)
      have HSk := hide (((unhide HS).less (Nat.le_of_lt hkn)).kept (unhide HB1))
      have hkc : (k : Int) ≤ (c : Int) := by omega
      cases hwd : wideB s2 s3 s4
      · rw [hwd] at HO cW
        have HO' : Hid (okV L k = false) := HO
        refine wp_region_quiet_below (by kernel_rfl) (by kernel_rfl) ?_
        repeat (go_big_quiet_step (first | (with_reducible exact Calls.regrown_of (unhide cW _))))
        refine wpQuiet_nil ?_
        intro _ hw'
        obtain ⟨⟨dq, osq⟩, hw''⟩ := hw'
        subst hw''
        have hx := below_call (unhide HB1) (below_regrown W1 dq osq)
        generalize grow (redrawn W1 dq) osq = W2 at hx ⊢
        go_wp2_with fail
        go_ret
        exact ⟨by rw [spots_no (by rw [unhide HL]; exact hkn) (unhide HO')]; rfl, hx⟩
      · rw [hwd, Bool.true_and] at HO
        rw [hwd] at cW
        generalize amongB L (s2, s3, s4) k = am at *
        refine wp_region_quiet_below (by kernel_rfl) (by kernel_rfl) ?_
        repeat (go_big_quiet_step (first | (with_reducible exact Calls.regrown_of (unhide cW _)) | (with_reducible exact Calls.regrown_of (unhide cA _ ((unhide HSk).kept (below_regrown _ _ _))))))
        refine wpQuiet_nil ?_
        intro _ hw'
        obtain ⟨⟨dq, osq⟩, hw''⟩ := hw'
        subst hw''
        have hx := below_call (unhide HB1) (below_regrown W1 dq osq)
        generalize grow (redrawn W1 dq) osq = W2 at hx ⊢
        have HB2 := hide hx
        clear hx HB1 HB cW cA HSk r0 r1 r2
        cases am
        · have HO' : Hid (okV L k = true) := HO
          go_wp2_with fail
          go_roundw
          case rel => exact ⟨k + 1, by omega, by go_num, hide (okV_step (unhide HF) (unhide HO')), HB2⟩
          case measure => simp [intOf]; omega
        · have HO' : Hid (okV L k = false) := HO
          go_wp2_with fail
          go_ret
          exact ⟨by rw [spots_no (by rw [unhide HL]; exact hkn) (unhide HO')]; rfl, unhide HB2⟩
    · have hkn' : k = n := by omega
      have HO : Hid (spotsB L = true) := hide (spots_yes (by rw [unhide HL]; omega) (by rw [unhide HL, ← hkn']; exact unhide HF))
      go_wp2_with fail
      go_ret
      exact ⟨by rw [unhide HO]; rfl, unhide HB⟩
end Go.Proofs.YtnffnjljjecphaaDoor

namespace Go.Proofs.YtnffnjljjecphaaDoor
open Go.RowKit Go.Sort
set_option linter.unusedVariables false

theorem same_of_right {a1 a2 a3 b1 b2 b3 : Int} (ha : rightB a1 a2 a3 = true) (hb : rightB b1 b2 b3 = true) :
    (eqB (crW a2 a3 b2 b3) (crW a3 a1 b3 b1) (crW a1 a2 b1 b2) 0 0 0 && decide (0 < dotW a1 a2 a3 b1 b2 b3)) = sameB a1 a2 a3 b1 b2 b3 := by
  unfold sameB
  rw [ha, hb]
  rfl
/-- the specification's own order: the earlier one first -/
theorem l02Same_right (p q : D3) (w : World) (hp : rightB p.1 p.2.1 p.2.2 = true) (hq : rightB q.1 q.2.1 q.2.2 = true) :
    Calls Tryd.prog 66 #[.agg #[.int .i64 p.1, .int .i64 p.2.1, .int .i64 p.2.2], .agg #[.int .i64 q.1, .int .i64 q.2.1, .int .i64 q.2.2]] w fun e w' => e = .returned (.bool (sameD p q)) ∧ Below w.heap.size w w' := by
  refine (l02Same_any _ _ _ _ _ _ w).mono fun e w' h => ?_
  rw [same_of_right hp hq] at h
  exact h

set_option maxHeartbeats 4000000 in
set_option maxRecDepth 100000 in
theorem specSpotsRight_any (L : List D3) (a : Option Addr) (c : Nat) (w : World) (hn : L.length ≤ 1048576) (hS : Dirs w a L L.length) :
    Calls Tryd.prog 27 #[.slice a L.length c] w fun e w' => e = .returned (.bool (spotsB L)) ∧ Below w.heap.size w w' := by
  obtain ⟨n, hnl⟩ : ∃ n, L.length = n := ⟨_, rfl⟩
  rw [hnl] at hn hS ⊢
  have HL := hide hnl
  clear hnl
  by_cases h12 : 6 < n
  · have h12' : (6 : Int) < (n : Int) := by omega
    have HO : Hid (spotsB L = false) := hide (spots_long (by rw [unhide HL]; exact h12))
    clear hS
    go_enter Tryd.func27, Tryd.ntmps27
    go_wp2
    go_ret
    exact ⟨by rw [unhide HO]; rfl, Below.refl _ _⟩
  have h12' : ¬ (6 : Int) < (n : Int) := by omega
  rcases hS with rfl | ⟨b, o, rfl, hb, hc⟩
  · have HO : Hid (spotsB L = true) := hide (spots_yes (by rw [unhide HL]; omega) (by rw [unhide HL]; intro j hj; omega))
    go_enter Tryd.func27, Tryd.ntmps27
    go_wp2_with fail
    refine wp_loop_rounds 1 ?_
    rw [rounds_succ]
    go_wp2_with fail
    go_ret
    exact ⟨by rw [unhide HO]; rfl, Below.refl _ _⟩
  have HC := hide hc
  clear hc
  go_enter Tryd.func27, Tryd.ntmps27
  go_wp2_with fail
  go_loopw [3] (fun i wr => ∃ k : Nat, k ≤ n ∧ i = .int .i64 k ∧ Hid (okVTo L k) ∧ Hid (Below w.heap.size w wr)) (fun i _ => n - (intOf i).toNat)
  case atStart => exact ⟨0, by omega, rfl, hide (fun j hj => absurd hj (Nat.not_lt_zero _)), hide (Below.refl _ _)⟩
  case round =>
    obtain ⟨k, hk, rfl, HF, HB⟩ := hrel
    by_cases hkn : k < n
    · have hkn2 : (k : Int) < (n : Int) := by omega
      obtain ⟨⟨s2, s3, s4⟩, hs⟩ : ∃ s, vA L k = s := ⟨_, rfl⟩
      have hst := ((unhide HC) k hkn).kept hb (unhide HB)
      rw [hs] at hst
      obtain ⟨c0, c1, c2⟩ := hst
      have HT := hide hs
      clear hs
      have HO : Hid (okV L k = (wideB s2 s3 s4 && !amongB L (s2, s3, s4) k)) := hide (by unfold okV wideD; rw [unhide HT])
      go_wp2_with fail
      refine (l04Wide_any s2 s3 s4 _).mono ?_
      rintro e W2 ⟨rfl, hx⟩
      have HB2 := hide (below_call (unhide HB) hx)
      clear hx c0 c1 c2 HB
      cases hwd : wideB s2 s3 s4
      · rw [hwd] at HO
        have HO' : Hid (okV L k = false) := HO
        go_wp2_with fail
        go_ret
        exact ⟨by rw [spots_no (by rw [unhide HL]; exact hkn) (unhide HO')]; rfl, unhide HB2⟩
      rw [hwd, Bool.true_and] at HO
      have HWD := hide hwd
      clear hwd
      go_wp2_with fail
      go_loopw [4] (fun i wr => ∃ j : Nat, j ≤ k ∧ i = .int .i64 j ∧ Hid (asideTo L (s2, s3, s4) j) ∧ Hid (Below w.heap.size w wr)) (fun i _ => k - (intOf i).toNat)
      case atStart => exact ⟨0, by omega, rfl, hide (fun j hj => absurd hj (Nat.not_lt_zero _)), HB2⟩
      case round =>
        clear HB2
        obtain ⟨j, hj, rfl, HN, HB3⟩ := hrel
        by_cases hjk : j < k
        · have hjk2 : (j : Int) < (k : Int) := by omega
          have hjn2 : (j : Int) < (n : Int) := by omega
          have HWJ := hide (okV_wide (unhide HF j hjk))
          obtain ⟨⟨t2, t3, t4⟩, ht⟩ : ∃ s, vA L j = s := ⟨_, rfl⟩
          have hst := ((unhide HC) k hkn).kept hb (unhide HB3)
          have htt := ((unhide HC) j (by omega)).kept hb (unhide HB3)
          rw [unhide HT] at hst
          rw [ht] at htt HWJ
          obtain ⟨c0, c1, c2⟩ := hst
          obtain ⟨d0, d1, d2⟩ := htt
          have HTJ := hide ht
          clear ht
          have cS : Hid (∀ W : World, Calls Tryd.prog 66 #[.agg #[.int .i64 t2, .int .i64 t3, .int .i64 t4], .agg #[.int .i64 s2, .int .i64 s3, .int .i64 s4]] W fun e w' => e = .returned (.bool (sameD (s2, s3, s4) (t2, t3, t4))) ∧ Below W.heap.size W w') := hide (fun W => by
            rw [sameD_turned (p := (s2, s3, s4)) (q := (t2, t3, t4)) (unhide HWD) (unhide HWJ)]
            exact l02Same_right (t2, t3, t4) (s2, s3, s4) W (wide_iff (unhide HWJ)).1 (wide_iff (unhide HWD)).1)
          have HSM : Hid (sameD (s2, s3, s4) (vA L j) = sameD (s2, s3, s4) (t2, t3, t4)) := hide (by rw [unhide HTJ])
          generalize sameD (s2, s3, s4) (t2, t3, t4) = sm at *
          have r0 := cell_regrown c0
          have r1 := cell_regrown c1
          have r2 := cell_regrown c2
          have q0 := cell_regrown d0
          have q1 := cell_regrown d1
          have q2 := cell_regrown d2
          clear c0 c1 c2 d0 d1 d2
          go_wp2_with fail
          refine wp_region_quiet_below (by kernel_rfl) (by kernel_rfl) ?_
          repeat (go_big_quiet_step (first | (with_reducible exact Calls.regrown_of (unhide cS _))))
          refine wpQuiet_nil ?_
          intro _ hw'
          obtain ⟨⟨dq, osq⟩, hw''⟩ := hw'
          subst hw''
          have hx := below_call (unhide HB3) (below_regrown wr dq osq)
          generalize grow (redrawn wr dq) osq = W4 at hx ⊢
          have HB4 := hide hx
          clear hx HB3 cS r0 r1 r2 q0 q1 q2
          cases sm
          · go_wp2_with fail
            go_roundw
            case rel => exact ⟨j + 1, by omega, by go_num, hide (aside_step (unhide HN) (unhide HSM)), HB4⟩
            case measure => simp [intOf]; omega
          · have HO' : Hid (okV L k = false) := hide (by rw [unhide HO, among_yes hjk (unhide HSM)]; rfl)
            go_wp2_with fail
            go_ret
            exact ⟨by rw [spots_no (by rw [unhide HL]; exact hkn) (unhide HO')]; rfl, unhide HB4⟩
        · have hjk' : j = k := by omega
          subst hjk'
          have HO' : Hid (okV L j = true) := hide (by rw [unhide HO, among_no (unhide HN)]; rfl)
          go_wp2_with fail
          go_roundw
          case rel => exact ⟨j + 1, by omega, by go_num, hide (okV_step (unhide HF) (unhide HO')), HB3⟩
          case measure => simp [intOf]; omega
    · have hkn' : k = n := by omega
      have HO : Hid (spotsB L = true) := hide (spots_yes (by rw [unhide HL]; omega) (by rw [unhide HL, ← hkn']; exact unhide HF))
      go_wp2_with fail
      go_ret
      exact ⟨by rw [unhide HO]; rfl, unhide HB⟩
end Go.Proofs.YtnffnjljjecphaaDoor

namespace Go.Proofs.YtnffnjljjecphaaDoor
open Go.RowKit Go.Sort
set_option linter.unusedVariables false

/-- block b is a row of n directions, none frozen, of which the first k are L's -/
def OwnD (w : World) (b n : Nat) (L : List D3) (k : Nat) : Prop := ∃ cur : Array Value, w.heap[b]? = some (.cells cur 75 (0, 0)) ∧ cur.size = n * 3 ∧
  ∀ j, j < k → cur[j * 3]? = some (.int .i64 (vA L j).1) ∧ cur[j * 3 + 1]? = some (.int .i64 (vA L j).2.1) ∧ cur[j * 3 + 2]? = some (.int .i64 (vA L j).2.2)
theorem OwnD.lt {w : World} {b n k : Nat} {L : List D3} (h : OwnD w b n L k) : b < w.heap.size := by
  obtain ⟨cur, hc, _⟩ := h
  exact (Array.getElem?_eq_some_iff.1 hc).1
theorem OwnD.kept {w w' : World} {b n k : Nat} {L : List D3} (h : OwnD w b n L k) (hB : Below w.heap.size w w') : OwnD w' b n L k := by
  have hl := h.lt
  obtain ⟨cur, hc, r⟩ := h
  exact ⟨cur, by rw [hB.block b hl]; exact hc, r⟩
theorem OwnD.dirs {w : World} {b n k : Nat} {L : List D3} (h : OwnD w b n L k) : Dirs w (some ⟨b, 0, none⟩) L k := by
  have hl := h.lt
  obtain ⟨cur, hc, _, hs⟩ := h
  refine .inr ⟨b, 0, rfl, hl, fun i hi => ?_⟩
  obtain ⟨h0, h1, h2⟩ := hs i hi
  rw [Nat.zero_add]
  exact ⟨by rw [cell_of_row w b _ cur _ _ hc]; exact h0, by rw [cell_of_row w b _ cur _ _ hc]; exact h1, by rw [cell_of_row w b _ cur _ _ hc]; exact h2⟩
theorem OwnD.old {w : World} {b n k i : Nat} {L : List D3} (h : OwnD w b n L k) (hi : i < n * 3) : ∃ v, w.cell? ⟨b, i, none⟩ = some v := by
  obtain ⟨cur, hc, hn, _⟩ := h
  rw [cell_of_row w b _ cur _ _ hc]
  exact ⟨cur[i], Array.getElem?_eq_getElem (by omega)⟩
theorem OwnD.free {w : World} {b n k : Nat} {L : List D3} (h : OwnD w b n L k) (i : Nat) : w.frozen? ⟨b, i, none⟩ = false := by
  obtain ⟨cur, hc, _⟩ := h
  exact frozen_of_row w b i cur _ hc
def set3 (w : World) (b o : Nat) (s : D3) : World := ((w.setCell ⟨b, o, none⟩ (.int .i64 s.1)).setCell ⟨b, o + 1, none⟩ (.int .i64 s.2.1)).setCell ⟨b, o + 2, none⟩ (.int .i64 s.2.2)
theorem OwnD.step {w : World} {b n k : Nat} {L : List D3} (h : OwnD w b n L k) (hk : k < n) : OwnD (set3 w b (k * 3) (vA L k)) b n L (k + 1) := by
  obtain ⟨cur, hc, hn, hs⟩ := h
  have e1 := heap_setCell_same w b (k * 3) cur _ (.int .i64 (vA L k).1) hc
  have e2 := heap_setCell_same _ b (k * 3 + 1) _ _ (.int .i64 (vA L k).2.1) e1
  have e3 := heap_setCell_same _ b (k * 3 + 2) _ _ (.int .i64 (vA L k).2.2) e2
  refine ⟨_, e3, by simpa using hn, fun j hj => ?_⟩
  by_cases e : j = k
  · subst e
    refine ⟨?_, ?_, ?_⟩ <;> simp [Array.getElem?_setIfInBounds] <;> omega
  · obtain ⟨h0, h1, h2⟩ := hs j (by omega)
    refine ⟨?_, ?_, ?_⟩
    · simp only [Array.getElem?_setIfInBounds]
      rw [if_neg (by omega), if_neg (by omega), if_neg (by omega)]; exact h0
    · simp only [Array.getElem?_setIfInBounds]
      rw [if_neg (by omega), if_neg (by omega), if_neg (by omega)]; exact h1
    · simp only [Array.getElem?_setIfInBounds]
      rw [if_neg (by omega), if_neg (by omega), if_neg (by omega)]; exact h2
theorem belowSet3 {B : Nat} {w w1 : World} {b o : Nat} {s : D3} (h : Below B w w1) (hb : B ≤ b) : Below B w (set3 w1 b o s) := ((h.setCell hb _).setCell hb _).setCell hb _

theorem info_dir : (Tryd.prog.info? 75).map (fun i => (i.zero, i.size, i.bytes)) = some (some (.agg #[.int .i64 0, .int .i64 0, .int .i64 0]), 3, 24) := by kernel_rfl
theorem ownD_made {w' : World} {B b n : Nat} {L : List D3} {xs : List Value} (h : w'.ownsRow B 75 3 (.slice (some ⟨b, 0, none⟩) n n) n xs) : OwnD w' b n L 0 := by
  rcases h.2 with ⟨h', _⟩ | ⟨g, cap, cur, hv, _, hg, _, _, hcs, _⟩
  · simp at h'
  · simp only [Value.slice.injEq, Option.some.injEq, Addr.mk.injEq, and_true, true_and] at hv
    obtain ⟨rfl, rfl⟩ := hv
    exact ⟨cur, hg, hcs, fun j hj => absurd hj (Nat.not_lt_zero _)⟩
theorem below_grownD {w w' : World} (h : w.grownBy w' none) : Below w.heap.size w w' := ⟨h.os, h.tape, h.output, h.size, fun k hk => h.block k hk (by simp)⟩
set_option maxRecDepth 100000 in
theorem szVecS_any (a : Option Addr) (n c : Nat) (left : Int) (w : World) (h0 : 0 ≤ left) (h1 : left ≤ 1048576) (hn : (n : Int) ≤ left) :
    Calls Tryd.prog 24 #[.slice a n c, .int .i64 left] w fun e w' => e = .returned (.int .i64 (left - (n : Int))) ∧ w' = w := by
  have h : ¬ left - (n : Int) < 0 := by omega
  go_enter Tryd.func24, Tryd.ntmps24
  go_wp2
  go_ret
  exact ⟨rfl, rfl⟩
set_option maxRecDepth 100000 in
theorem szVecS_big (a : Option Addr) (n c : Nat) (left : Int) (w : World) (h0 : 0 ≤ left) (h1 : left ≤ 1048576) (hn : left < (n : Int)) (hm : n ≤ 9223372036854775807) :
    Calls Tryd.prog 24 #[.slice a n c, .int .i64 left] w fun e w' => e = .returned (.int .i64 (-1)) ∧ w' = w := by
  have h : left - (n : Int) < 0 := by omega
  go_enter Tryd.func24, Tryd.ntmps24
  go_wp2
  go_ret
  exact ⟨rfl, rfl⟩
set_option maxRecDepth 100000 in
theorem toDir_any (x y z : Int) (w : World) :
    Calls Tryd.prog 67 #[.agg #[.int .i64 x, .int .i64 y, .int .i64 z]] w fun e w' => e = .returned (.agg #[.int .i64 x, .int .i64 y, .int .i64 z]) ∧ Below w.heap.size w w' := by
  go_enter Tryd.func67, Tryd.ntmps67
  go_wp2
  exact bodyPost_ret (v := .agg #[.int .i64 x, .int .i64 y, .int .i64 z]) (by simp [results, Tryd.results67, go_sem]) rfl ⟨rfl, below3 _ _ _ _⟩

set_option maxHeartbeats 1000000 in
set_option maxRecDepth 100000 in
theorem toVecS_any (L : List D3) (n : Nat) (a : Option Addr) (c : Nat) (w : World) (hn : n ≤ 1048576) (hS : Dirs w a L n) :
    Calls Tryd.prog 31 #[.slice a n c] w fun e w' => e = .returned (.slice (some ⟨w.heap.size, 0, none⟩) n n) ∧ OwnD w' w.heap.size n L n ∧ Below w.heap.size w w' := by
  have HS := hide hS
  clear hS
  obtain ⟨i0, hi, hz0, hz1, hz2⟩ := info_parts info_dir
  go_enter Tryd.func31, Tryd.ntmps31
  go_wp2_with (at_make; refine wpList_make_full _ rfl _ _ 32 rfl w.heap.size 75 i0 (.agg #[.int .i64 0, .int .i64 0, .int .i64 0]) 3 Tryd.underlying32 hi hz0 hz1 .i64 .i64 _ _ n rfl rfl rfl rfl (by rw [hz2]; omega) (by unfold maxLen; omega) (Nat.le_refl _) ?_; intro w0 hown0 hgrow0)
  have H0 := hide (ownD_made (L := L) hown0)
  have HB0 := hide (below_grownD hgrow0)
  clear hown0 hgrow0
  rcases unhide HS with rfl | ⟨b, o, rfl, hb, hc⟩
  · refine wp_loop_rounds 1 ?_
    rw [rounds_succ]
    go_wp2_with fail
    go_ret
    exact ⟨rfl, unhide H0, unhide HB0⟩
  have HC := hide hc
  clear hc
  go_loopw [4] (fun i wr => ∃ k : Nat, k ≤ n ∧ i = .int .i64 k ∧ Hid (OwnD wr w.heap.size n L k) ∧ Hid (Below w.heap.size w wr)) (fun i _ => n - (intOf i).toNat)
  case atStart => exact ⟨0, by omega, rfl, H0, HB0⟩
  case round =>
    obtain ⟨k, hk, rfl, HO, HB⟩ := hrel
    by_cases hkn : k < n
    · obtain ⟨⟨s2, s3, s4⟩, hs⟩ : ∃ s, vA L k = s := ⟨_, rfl⟩
      have hst := ((unhide HC) k hkn).kept hb (unhide HB)
      rw [hs] at hst
      obtain ⟨c0, c1, c2⟩ := hst
      have HT := hide hs
      clear hs
      go_wp2_with fail
      refine (toDir_any s2 s3 s4 _).mono ?_
      rintro e w2 ⟨rfl, hx⟩
      clear c0 c1 c2
      have O2 := hide ((unhide HO).kept hx)
      have B2 := hide (below_call (unhide HB) hx)
      clear hx
      obtain ⟨x0, e0⟩ := (unhide O2).old (i := k * 3) (by omega)
      obtain ⟨x1, e1⟩ := (unhide O2).old (i := k * 3 + 1) (by omega)
      obtain ⟨x2, e2⟩ := (unhide O2).old (i := k * 3 + 2) (by omega)
      have f0 := (unhide O2).free (k * 3)
      have f1 := (unhide O2).free (k * 3 + 1)
      have f2 := (unhide O2).free (k * 3 + 2)
      have O3 := (unhide O2).step hkn
      rw [unhide HT] at O3
      have HO3 := hide O3
      have HB3 := hide (belowSet3 (o := k * 3) (s := (s2, s3, s4)) (unhide B2) (Nat.le_refl _))
      clear O3
      go_wp2_with fail
      go_roundw
      case rel => exact ⟨k + 1, by omega, by go_num, HO3, HB3⟩
      case measure => simp [intOf]; omega
    · have hkn' : k = n := by omega
      subst hkn'
      go_wp2_with fail
      go_ret
      exact ⟨rfl, unhide HO, unhide HB⟩

set_option maxRecDepth 100000 in
theorem eqDir_same (x y z : Int) (w : World) :
    Calls Tryd.prog 75 #[.agg #[.int .i64 x, .int .i64 y, .int .i64 z], .agg #[.int .i64 x, .int .i64 y, .int .i64 z]] w fun e w' => e = .returned (.bool true) ∧ Below w.heap.size w w' := by
  go_enter Tryd.func75, Tryd.ntmps75
  go_wp2
  go_ret
  exact ⟨rfl, below2 _ _ _⟩
set_option maxHeartbeats 1000000 in
set_option maxRecDepth 100000 in
theorem eqVecS_same (L : List D3) (n : Nat) (a a' : Option Addr) (c c' : Nat) (w : World) (hn : n ≤ 1048576) (hS : Dirs w a L n) (hS' : Dirs w a' L n) :
    Calls Tryd.prog 36 #[.slice a n c, .slice a' n c'] w fun e w' => e = .returned (.bool true) ∧ Below w.heap.size w w' := by
  rcases hS with rfl | ⟨b, o, rfl, hb, hc⟩
  · clear hS'
    go_enter Tryd.func36, Tryd.ntmps36
    go_wp2_with fail
    refine wp_loop_rounds 1 ?_
    rw [rounds_succ]
    go_wp2_with fail
    go_ret
    exact ⟨rfl, Below.refl _ _⟩
  rcases hS' with rfl | ⟨b', o', rfl, hb', hc'⟩
  · clear hc
    go_enter Tryd.func36, Tryd.ntmps36
    go_wp2_with fail
    refine wp_loop_rounds 1 ?_
    rw [rounds_succ]
    go_wp2_with fail
    go_ret
    exact ⟨rfl, Below.refl _ _⟩
  have HC := hide hc
  have HC' := hide hc'
  clear hc hc'
  go_enter Tryd.func36, Tryd.ntmps36
  go_wp2_with fail
  go_loopw [5] (fun i wr => ∃ k : Nat, k ≤ n ∧ i = .int .i64 k ∧ Hid (Below w.heap.size w wr)) (fun i _ => n - (intOf i).toNat)
  case atStart => exact ⟨0, by omega, rfl, hide (Below.refl _ _)⟩
  case round =>
    obtain ⟨k, hk, rfl, HB⟩ := hrel
    by_cases hkn : k < n
    · obtain ⟨⟨s2, s3, s4⟩, hs⟩ : ∃ s, vA L k = s := ⟨_, rfl⟩
      have hst := ((unhide HC) k hkn).kept hb (unhide HB)
      have hst' := ((unhide HC') k hkn).kept hb' (unhide HB)
      rw [hs] at hst hst'
      obtain ⟨c0, c1, c2⟩ := hst
      obtain ⟨d0, d1, d2⟩ := hst'
      have r0 := cell_regrown c0
      have r1 := cell_regrown c1
      have r2 := cell_regrown c2
      have t0 := cell_regrown d0
      have t1 := cell_regrown d1
      have t2 := cell_regrown d2
      clear c0 c1 c2 d0 d1 d2 hs
      have hkn2 : (k : Int) < (n : Int) := by omega
      have cE := hide (fun W => eqDir_same s2 s3 s4 W)
      go_wp2_with fail
      refine wp_region_quiet_below (by kernel_rfl) (by kernel_rfl) ?_
      repeat (go_big_quiet_step (first | (with_reducible exact Calls.regrown_of (unhide cE _))))
      refine wpQuiet_nil ?_
      intro _ hw'
      obtain ⟨⟨dq, osq⟩, hw''⟩ := hw'
      subst hw''
      have hx := below_call (unhide HB) (below_regrown wr dq osq)
      generalize grow (redrawn wr dq) osq = W2 at hx ⊢
      have HB2 := hide hx
      clear hx r0 r1 r2 t0 t1 t2 cE HB
      go_wp2_with fail
      go_roundw
      case rel => exact ⟨k + 1, by omega, by go_num, HB2⟩
      case measure => simp [intOf]; omega
    · have hkn' : k = n := by omega
      subst hkn'
      go_wp2_with fail
      go_ret
      exact ⟨rfl, unhide HB⟩
end Go.Proofs.YtnffnjljjecphaaDoor
