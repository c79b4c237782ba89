/- Several texts in one: ListV, CrH, CrI, IdW. -/
import Derived.Lib.QuietBelow
import Derived.Deep.QuietTactic
import Derived.BigQuiet
import Derived.Test.YtnffnjljjecphaaDoorRows
import Derived.Deep.Slices
import Derived.Deep.Strs
import Derived.LaidHandle
import Derived.LaidMore
import Derived.ProofKit
import Derived.Test.YtnffnjljjecphaaDoorQCommandReadOwn15
import Derived.Test.YtnffnjljjecphaaDoorQCommandReadOwn19
import Derived.Test.YtnffnjljjecphaaDoorQCommandReadOwn4
namespace Go.Proofs.YtnffnjljjecphaaDoor
open Go.RowKit Go.Sort
set_option linter.unusedVariables false
def valVecS (fI : Nat → Int) (fB : Nat → Bool) (j : Nat) : Value := .int .i64 (fI j)
def markVecSV (j : Nat) : Value := valVecS (fun j => 1 + (j : Int)) (fun j => decide ((1 + (j : Int)) % 3 = 0)) j
theorem valVecS_0 (fI : Nat → Int) (fB : Nat → Bool) (q : Nat) : valVecS fI fB (q * 3) = .int .i64 (fI (q * 3)) := by unfold valVecS; rfl
theorem valVecS_1 (fI : Nat → Int) (fB : Nat → Bool) (q : Nat) : valVecS fI fB (q * 3 + 1) = .int .i64 (fI (q * 3 + 1)) := by unfold valVecS; rfl
theorem valVecS_2 (fI : Nat → Int) (fB : Nat → Bool) (q : Nat) : valVecS fI fB (q * 3 + 2) = .int .i64 (fI (q * 3 + 2)) := by unfold valVecS; rfl
theorem markVecSV_0 (q : Nat) : markVecSV (q * 3) = .int .i64 (1 + (q : Int) * 3) := by
  unfold markVecSV
  rw [valVecS_0]
  have e : (1 + ((q * 3 : Nat) : Int)) = 1 + (q : Int) * 3 := by omega
  simp only [e]
theorem markVecSV_1 (q : Nat) : markVecSV (q * 3 + 1) = .int .i64 (1 + (q : Int) * 3 + 1) := by
  unfold markVecSV
  rw [valVecS_1]
  have e : (1 + ((q * 3 + 1 : Nat) : Int)) = 1 + (q : Int) * 3 + 1 := by omega
  simp only [e]
theorem markVecSV_2 (q : Nat) : markVecSV (q * 3 + 2) = .int .i64 (1 + (q : Int) * 3 + 1 + 1) := by
  unfold markVecSV
  rw [valVecS_2]
  have e : (1 + ((q * 3 + 2 : Nat) : Int)) = 1 + (q : Int) * 3 + 1 + 1 := by omega
  simp only [e]
set_option maxRecDepth 100000 in
theorem eqVecL_same (x0 : Int) (x1 : Int) (x2 : Int) (w : World) :
    Calls Tryd.prog 75 #[.agg #[.int .i64 x0, .int .i64 x1, .int .i64 x2], .agg #[.int .i64 x0, .int .i64 x1, .int .i64 x2]] w fun e w' => e = .returned (.bool true) ∧ Below w.heap.size w w' := by
  go_enter Tryd.func75, Tryd.ntmps75
  go_wp2
  go_ret
  exact ⟨rfl, below2 _ _ _⟩
set_option maxHeartbeats 2000000 in
set_option maxRecDepth 100000 in
theorem eqVecS_any (n lo hi lo' hi' : Nat) (v v' : Value) (fI : Nat → Int) (fB : Nat → Bool) (w : World) (hn : n ≤ 1048576) (h : PRow w 75 3 lo hi n v (valVecS fI fB)) (h' : PRow w 75 3 lo' hi' n v' (valVecS fI fB)) :
    Calls Tryd.prog 36 #[v, v'] w fun e w' => e = .returned (.bool true) ∧ Below w.heap.size w w' := by
  have bare : ∀ (a a' : Option Addr) (c c' : Nat), Calls Tryd.prog 36 #[.slice a 0 c, .slice a' 0 c'] w fun e w' => e = .returned (.bool true) ∧ Below w.heap.size w w' := by
    intro a a' c c'
    clear h h'
    go_enter Tryd.func36, Tryd.ntmps36
    go_wp2_with fail
    refine wp_loop_rounds 1 ?_
    rw [rounds_succ]
    go_wp2_with fail
    go_ret
    exact ⟨rfl, Below.refl _ _⟩
  rcases h with ⟨rfl, a, c, rfl⟩ | ⟨g, c, rfl, _, _, hr⟩
  · rcases h' with ⟨_, a', c', rfl⟩ | ⟨g', c', rfl, _⟩
    · exact bare _ _ _ _
    · exact bare _ _ _ _
  rcases h' with ⟨rfl, a', c', rfl⟩ | ⟨g', c', rfl, _, _, hr'⟩
  · exact bare _ _ _ _
  clear bare
  have HR := hide hr
  have HR' := hide hr'
  clear hr hr'
  go_enter Tryd.func36, Tryd.ntmps36
  go_wp2_with fail
  go_loopw [5] (fun i wr => ∃ k : Nat, k ≤ n ∧ i = .int .i64 k ∧ Hid (Below w.heap.size w wr)) (fun i _ => n - (intOf i).toNat)
  case atStart => exact ⟨0, by omega, rfl, hide (Below.refl _ _)⟩
  case round =>
    obtain ⟨k, hk, rfl, HB⟩ := hrel
    by_cases hkn : k < n
    · have hkn2 : (k : Int) < (n : Int) := by omega
      have c0 := ((unhide HR).kept (unhide HB)).cell (j := k * 3) (by omega)
      have d0 := ((unhide HR').kept (unhide HB)).cell (j := k * 3) (by omega)
      rw [valVecS_0] at c0 d0
      have c1 := ((unhide HR).kept (unhide HB)).cell (j := k * 3 + 1) (by omega)
      have d1 := ((unhide HR').kept (unhide HB)).cell (j := k * 3 + 1) (by omega)
      rw [valVecS_1] at c1 d1
      have c2 := ((unhide HR).kept (unhide HB)).cell (j := k * 3 + 2) (by omega)
      have d2 := ((unhide HR').kept (unhide HB)).cell (j := k * 3 + 2) (by omega)
      rw [valVecS_2] at c2 d2
      generalize fI (k * 3) = x0 at c0 d0
      generalize fI (k * 3 + 1) = x1 at c1 d1
      generalize fI (k * 3 + 2) = x2 at c2 d2
      have r0 := cell_regrown c0
      have t0 := cell_regrown d0
      have r1 := cell_regrown c1
      have t1 := cell_regrown d1
      have r2 := cell_regrown c2
      have t2 := cell_regrown d2
      clear c0 d0 c1 d1 c2 d2
      have cE := hide (fun W => eqVecL_same x0 x1 x2 W)
      go_wp2_with fail
      refine wp_region_quiet_below (by kernel_rfl) (by kernel_rfl) ?_
      repeat (go_big_quiet_step (first | (with_reducible exact Calls.regrown_of (unhide cE _))))
      refine wpQuiet_nil ?_
      intro _ hw'
      obtain ⟨⟨dq, osq⟩, hw''⟩ := hw'
      subst hw''
      have hx := below_call (unhide HB) (below_regrown wr dq osq)
      generalize grow (redrawn wr dq) osq = W2 at hx ⊢
      have HB2 := hide hx
      clear hx cE HB r0 t0 r1 t1 r2 t2
      go_wp2_with fail
      go_roundw
      case rel => exact ⟨k + 1, by omega, by go_num, HB2⟩
      case measure => simp [intOf]; omega
    · have hkn' : k = n := by omega
      subst hkn'
      go_wp2_with fail
      go_ret
      exact ⟨rfl, unhide HB⟩
set_option maxHeartbeats 2000000 in
set_option maxRecDepth 100000 in
theorem markVecS_any (n lo hi : Nat) (v : Value) (f : Nat → Value) (w : World) (hn : n ≤ 1048576) (h : PRow w 75 3 lo hi n v f) :
    Calls Tryd.prog 88 #[v, .int .i64 1] w fun e w' => e = .returned (.int .i64 (1 + (n : Int) * 3)) ∧ PRow w' 75 3 lo hi n v markVecSV ∧ Apart lo hi w w' := by
  rcases h with ⟨rfl, a, c, rfl⟩ | ⟨g, c, rfl, h1, h2, hr⟩
  · go_enter Tryd.func88, Tryd.ntmps88
    go_wp2_with fail
    refine wp_loop_rounds 1 ?_
    rw [rounds_succ]
    go_wp2_with fail
    go_ret
    exact ⟨rfl, .inl ⟨rfl, _, _, rfl⟩, Apart.refl _ _ _⟩
  have HR := hide hr
  clear hr
  go_enter Tryd.func88, Tryd.ntmps88
  go_wp2_with fail
  go_loopw [1, 5] (fun k i wr => ∃ q : Nat, q ≤ n ∧ i = .int .i64 q ∧ k = .int .i64 (1 + (q : Int) * 3) ∧ Hid (RowV wr 75 g (n * 3) (fun j => if j < q * 3 then markVecSV j else f j)) ∧ Hid (w.grownBy wr (some g))) (fun _ i _ => n - (intOf i).toNat)
  case atStart => exact ⟨0, by omega, rfl, rfl, hide ((unhide HR).congr (fun j hj => by simp)), hide (gRefl w _)⟩
  case round =>
    obtain ⟨q, hq, rfl, rfl, HO, HG⟩ := hrel
    by_cases hqn : q < n
    · have hqn2 : (q : Int) < (n : Int) := by omega
      have e0 := (unhide HO).cell (j := q * 3) (by omega)
      have f0 := (unhide HO).free (q * 3)
      have e1 := (unhide HO).cell (j := q * 3 + 1) (by omega)
      have f1 := (unhide HO).free (q * 3 + 1)
      have e2 := (unhide HO).cell (j := q * 3 + 2) (by omega)
      have f2 := (unhide HO).free (q * 3 + 2)
      rw [if_neg (by omega)] at e0
      rw [if_neg (by omega)] at e1
      rw [if_neg (by omega)] at e2
      have R0 := unhide HO
      have R1 := R0.set (q * 3) (.int .i64 (1 + (q : Int) * 3))
      have R2 := R1.set (q * 3 + 1) (.int .i64 (1 + (q : Int) * 3 + 1))
      have R3 := R2.set (q * 3 + 2) (.int .i64 (1 + (q : Int) * 3 + 1 + 1))
      have HO2 : Hid (RowV _ 75 g (n * 3) (fun j => if j < (q + 1) * 3 then markVecSV j else f j)) := hide (R3.congr (fun j hj => by
        try dsimp only
        by_cases h2 : j = q * 3 + 2
        · subst h2
          rw [if_pos (show q * 3 + 2 < (q + 1) * 3 by omega), markVecSV_2]
          repeat (first | rw [if_neg (by omega)] | rw [if_pos rfl])
        by_cases h1 : j = q * 3 + 1
        · subst h1
          rw [if_pos (show q * 3 + 1 < (q + 1) * 3 by omega), markVecSV_1]
          repeat (first | rw [if_neg (by omega)] | rw [if_pos rfl])
        by_cases h0 : j = q * 3
        · subst h0
          rw [if_pos (show q * 3 < (q + 1) * 3 by omega), markVecSV_0]
          repeat (first | rw [if_neg (by omega)] | rw [if_pos rfl])
        by_cases hlt : j < q * 3
        · rw [if_neg h2, if_neg h1, if_neg h0, if_pos hlt, if_pos (by omega)]
        · rw [if_neg h2, if_neg h1, if_neg h0, if_neg hlt, if_neg (by omega)]))
      have HG2 := hide (gSet (gSet (gSet (unhide HG) (q * 3) (.int .i64 (1 + (q : Int) * 3))) (q * 3 + 1) (.int .i64 (1 + (q : Int) * 3 + 1))) (q * 3 + 2) (.int .i64 (1 + (q : Int) * 3 + 1 + 1)))
      clear R0 R1 R2 R3
      go_wp2_with fail
      go_roundw
      case rel => exact ⟨q + 1, by omega, by go_num, by go_num, HO2, HG2⟩
      case measure => simp [intOf]; omega
    · have hqn' : q = n := by omega
      subst hqn'
      go_wp2_with fail
      go_ret
      exact ⟨rfl, .inr ⟨g, c, rfl, h1, h2, (unhide HO).congr (fun j hj => if_pos hj)⟩, Apart.of (unhide HG) h1 h2⟩
set_option maxHeartbeats 2000000 in
set_option maxRecDepth 100000 in
theorem heldVecS_any (n lo hi : Nat) (v : Value) (w : World) (hn : n ≤ 1048576) (h : PRow w 75 3 lo hi n v markVecSV) :
    Calls Tryd.prog 89 #[v, .int .i64 1] w fun e w' => e = .returned (.int .i64 (1 + (n : Int) * 3)) ∧ w' = w := by
  rcases h with ⟨rfl, a, c, rfl⟩ | ⟨g, c, rfl, h1, h2, hr⟩
  · go_enter Tryd.func89, Tryd.ntmps89
    go_wp2_with fail
    refine wp_loop_rounds 1 ?_
    rw [rounds_succ]
    go_wp2_with fail
    go_ret
    exact ⟨rfl, rfl⟩
  have HR := hide hr
  clear hr
  go_enter Tryd.func89, Tryd.ntmps89
  go_wp2_with fail
  go_loop [1, 5] (fun k i => ∃ q : Nat, q ≤ n ∧ i = .int .i64 q ∧ k = .int .i64 (1 + (q : Int) * 3)) (fun _ i => n - (intOf i).toNat)
  case atStart => exact ⟨0, by omega, rfl, rfl⟩
  case round =>
    obtain ⟨q, hq, rfl, rfl⟩ := hrel
    by_cases hqn : q < n
    · have hqn2 : (q : Int) < (n : Int) := by omega
      have e0 : w.cell? ⟨g, q * 3, none⟩ = some (.int .i64 (1 + (q : Int) * 3)) := by rw [(unhide HR).cell (j := q * 3) (by omega), markVecSV_0]
      have e1 : w.cell? ⟨g, q * 3 + 1, none⟩ = some (.int .i64 (1 + (q : Int) * 3 + 1)) := by rw [(unhide HR).cell (j := q * 3 + 1) (by omega), markVecSV_1]
      have e2 : w.cell? ⟨g, q * 3 + 2, none⟩ = some (.int .i64 (1 + (q : Int) * 3 + 1 + 1)) := by rw [(unhide HR).cell (j := q * 3 + 2) (by omega), markVecSV_2]
      go_wp2_with fail
      all_goals
        go_round
        case rel => exact ⟨q + 1, by omega, by go_num, by go_num⟩
        case measure => simp [intOf]; omega
    · have hqn' : q = n := by omega
      subst hqn'
      go_wp2_with fail
      go_ret
      exact ⟨rfl, rfl⟩
end Go.Proofs.YtnffnjljjecphaaDoor

namespace Go.Proofs.YtnffnjljjecphaaDoor
open Go.RowKit Go.Sort
set_option linter.unusedVariables false
set_option linter.unusedSimpArgs false

theorem apartB {lo hi : Nat} {w w1 w2 : World} (h : Below w.heap.size w w1) (ha : Apart lo hi w1 w2) : Apart lo hi w w2 :=
  ⟨ha.os.trans h.os, ha.tape.trans h.tape, ha.output.trans h.output, Nat.le_trans h.size ha.size, fun k hk hd => (ha.block k (Nat.lt_of_lt_of_le hk h.size) hd).trans (h.block k hk)⟩
theorem flatD_kind : ∀ (R : List D3) (j : Nat), j < R.length * 3 → ∃ z, (flatD R)[j]? = some (.int .i64 z)
  | [], j, h => by simp at h
  | b :: R, j, h => by
    have e : flatD (b :: R) = vec3D b ++ flatD R := by unfold flatD; simp
    rw [e]
    by_cases h5 : j < 3
    · have hc : j = 0 ∨ j = 1 ∨ j = 2 := by omega
      rcases hc with rfl | rfl | rfl <;> exact ⟨_, rfl⟩
    · have hl : (vec3D b).length = 3 := rfl
      rw [List.getElem?_append_right (by omega), hl]
      exact flatD_kind R (j - 3) (by simp at h; omega)
def vdV (R : List D3) (j : Nat) : Value := ((flatD R)[j]?).getD undef
theorem flatD_val (R : List D3) (j : Nat) (h : j < R.length * 3) : (flatD R)[j]? = some (vdV R j) := by
  obtain ⟨z, hz⟩ := flatD_kind R j h
  unfold vdV
  rw [hz]
  rfl

set_option maxHeartbeats 4000000 in
set_option maxRecDepth 100000 in
theorem eqCommandOut_same (c : Cm) (code : Int) (a a' : Option Addr) (k k' : Nat) (w : World) (hn : c.S.length ≤ 1048576) (hS : Dirs w a c.S c.S.length) (hS' : Dirs w a' c.S c.S.length) :
    Calls Tryd.prog 16 #[.agg #[.int .i64 c.kind, .int .i64 c.A, .int .i64 c.B, .int .i64 c.C, .int .i64 c.D, (.slice a c.S.length k), .int .i64 c.wd, .int .i64 c.ht, .string c.px, .int .i64 c.lv, .int .i64 c.fo, .int .i64 code], .agg #[.int .i64 c.kind, .int .i64 c.A, .int .i64 c.B, .int .i64 c.C, .int .i64 c.D, (.slice a' c.S.length k'), .int .i64 c.wd, .int .i64 c.ht, .string c.px, .int .i64 c.lv, .int .i64 c.fo, .int .i64 code]] w fun e w' => e = .returned (.bool true) ∧ Below w.heap.size w w' := by
  have B1 := hide (below2 w (.cells #[.int .i64 c.kind, .int .i64 c.A, .int .i64 c.B, .int .i64 c.C, .int .i64 c.D, (.slice a c.S.length k), .int .i64 c.wd, .int .i64 c.ht, .string c.px, .int .i64 c.lv, .int .i64 c.fo, .int .i64 code] 41) (.cells #[.int .i64 c.kind, .int .i64 c.A, .int .i64 c.B, .int .i64 c.C, .int .i64 c.D, (.slice a' c.S.length k'), .int .i64 c.wd, .int .i64 c.ht, .string c.px, .int .i64 c.lv, .int .i64 c.fo, .int .i64 code] 41))
  have O1 := hide ((blk_new w [.int .i64 c.kind, .int .i64 c.A, .int .i64 c.B, .int .i64 c.C, .int .i64 c.D, (.slice a c.S.length k), .int .i64 c.wd, .int .i64 c.ht, .string c.px, .int .i64 c.lv, .int .i64 c.fo, .int .i64 code] 41).alloc (.cells #[.int .i64 c.kind, .int .i64 c.A, .int .i64 c.B, .int .i64 c.C, .int .i64 c.D, (.slice a' c.S.length k'), .int .i64 c.wd, .int .i64 c.ht, .string c.px, .int .i64 c.lv, .int .i64 c.fo, .int .i64 code] 41))
  have O2 : Hid (Blk ((w.alloc (.cells #[.int .i64 c.kind, .int .i64 c.A, .int .i64 c.B, .int .i64 c.C, .int .i64 c.D, (.slice a c.S.length k), .int .i64 c.wd, .int .i64 c.ht, .string c.px, .int .i64 c.lv, .int .i64 c.fo, .int .i64 code] 41)).alloc (.cells #[.int .i64 c.kind, .int .i64 c.A, .int .i64 c.B, .int .i64 c.C, .int .i64 c.D, (.slice a' c.S.length k'), .int .i64 c.wd, .int .i64 c.ht, .string c.px, .int .i64 c.lv, .int .i64 c.fo, .int .i64 code] 41)) (w.heap.size + 1) [.int .i64 c.kind, .int .i64 c.A, .int .i64 c.B, .int .i64 c.C, .int .i64 c.D, (.slice a' c.S.length k'), .int .i64 c.wd, .int .i64 c.ht, .string c.px, .int .i64 c.lv, .int .i64 c.fo, .int .i64 code] 41) := hide (by simpa using blk_new (w.alloc (.cells #[.int .i64 c.kind, .int .i64 c.A, .int .i64 c.B, .int .i64 c.C, .int .i64 c.D, (.slice a c.S.length k), .int .i64 c.wd, .int .i64 c.ht, .string c.px, .int .i64 c.lv, .int .i64 c.fo, .int .i64 code] 41)) [.int .i64 c.kind, .int .i64 c.A, .int .i64 c.B, .int .i64 c.C, .int .i64 c.D, (.slice a' c.S.length k'), .int .i64 c.wd, .int .i64 c.ht, .string c.px, .int .i64 c.lv, .int .i64 c.fo, .int .i64 code] 41)
  have cE := hide (eqCommand_same c.S c.S.length c.kind c.A c.B c.C c.D c.wd c.ht c.lv c.fo c.px a a' k k' _ hn (hS.kept (unhide B1)) (hS'.kept (unhide B1)))
  clear hS hS'
  have p0 := (unhide O1).cell 0 _ rfl
  have p1 := (unhide O1).cell 1 _ rfl
  have p2 := (unhide O1).cell 2 _ rfl
  have p3 := (unhide O1).cell 3 _ rfl
  have p4 := (unhide O1).cell 4 _ rfl
  have p5 := (unhide O1).cell 5 _ rfl
  have p6 := (unhide O1).cell 6 _ rfl
  have p7 := (unhide O1).cell 7 _ rfl
  have p8 := (unhide O1).cell 8 _ rfl
  have p9 := (unhide O1).cell 9 _ rfl
  have p10 := (unhide O1).cell 10 _ rfl
  have p11 := (unhide O1).cell 11 _ rfl
  have q0 := (unhide O2).cell 0 _ rfl
  have q1 := (unhide O2).cell 1 _ rfl
  have q2 := (unhide O2).cell 2 _ rfl
  have q3 := (unhide O2).cell 3 _ rfl
  have q4 := (unhide O2).cell 4 _ rfl
  have q5 := (unhide O2).cell 5 _ rfl
  have q6 := (unhide O2).cell 6 _ rfl
  have q7 := (unhide O2).cell 7 _ rfl
  have q8 := (unhide O2).cell 8 _ rfl
  have q9 := (unhide O2).cell 9 _ rfl
  have q10 := (unhide O2).cell 10 _ rfl
  have q11 := (unhide O2).cell 11 _ rfl
  go_enter Tryd.func16, Tryd.ntmps16
  go_wp2_with fail
  refine (unhide cE).mono ?_
  rintro e w1 ⟨rfl, hx⟩
  clear p0 p1 p2 p3 p4 p5 p6 p7 p8 p9 p10 p11 q0 q1 q2 q3 q4 q5 q6 q7 q8 q9 q10 q11
  have p := ((unhide O1).kept hx).cell 11 _ rfl
  have q := ((unhide O2).kept hx).cell 11 _ rfl
  have B2 := hide (below_call (unhide B1) hx)
  clear hx B1 O1 O2 cE
  go_wp2_with fail
  go_ret
  exact ⟨rfl, unhide B2⟩
set_option maxHeartbeats 2000000 in
set_option maxRecDepth 100000 in
theorem markCommand_any (c : Cm) (a : Option Addr) (k lo hi : Nat) (f : Nat → Value) (w : World) (hn : c.S.length ≤ 1048576) (h : PRow w 75 3 lo hi c.S.length (.slice a c.S.length k) f) :
    Calls Tryd.prog 54 #[.agg #[.int .i64 c.kind, .int .i64 c.A, .int .i64 c.B, .int .i64 c.C, .int .i64 c.D, (.slice a c.S.length k), .int .i64 c.wd, .int .i64 c.ht, .string c.px, .int .i64 c.lv, .int .i64 c.fo], .int .i64 1] w fun e w' => e = .returned (.int .i64 (1 + (c.S.length : Int) * 3)) ∧ PRow w' 75 3 lo hi c.S.length (.slice a c.S.length k) markVecSV ∧ Apart lo hi w w' := by
  have B1 := below1 w (.cells #[.int .i64 c.kind, .int .i64 c.A, .int .i64 c.B, .int .i64 c.C, .int .i64 c.D, (.slice a c.S.length k), .int .i64 c.wd, .int .i64 c.ht, .string c.px, .int .i64 c.lv, .int .i64 c.fo] 35)
  have O1 := blk_new w [.int .i64 c.kind, .int .i64 c.A, .int .i64 c.B, .int .i64 c.C, .int .i64 c.D, (.slice a c.S.length k), .int .i64 c.wd, .int .i64 c.ht, .string c.px, .int .i64 c.lv, .int .i64 c.fo] 35
  have cM := hide (markVecS_any c.S.length lo hi (.slice a c.S.length k) f _ hn (h.kept B1))
  have p0 := (O1).cell 0 _ rfl
  have p1 := (O1).cell 1 _ rfl
  have p2 := (O1).cell 2 _ rfl
  have p3 := (O1).cell 3 _ rfl
  have p4 := (O1).cell 4 _ rfl
  have p5 := (O1).cell 5 _ rfl
  have p6 := (O1).cell 6 _ rfl
  have p7 := (O1).cell 7 _ rfl
  have p8 := (O1).cell 8 _ rfl
  have p9 := (O1).cell 9 _ rfl
  have p10 := (O1).cell 10 _ rfl
  have HB := hide B1
  clear B1 h O1
  go_enter Tryd.func54, Tryd.ntmps54
  go_wp2_with fail
  refine (unhide cM).mono ?_
  rintro e w1 ⟨rfl, hr, hg⟩
  have HG := hide (apartB (unhide HB) hg)
  have HR := hide hr
  clear hr hg cM p0 p1 p2 p3 p4 p5 p6 p7 p8 p9 p10
  go_wp2_with fail
  go_ret
  exact ⟨rfl, unhide HR, unhide HG⟩
set_option maxHeartbeats 2000000 in
set_option maxRecDepth 100000 in
theorem markCommandOut_any (c : Cm) (code : Int) (a : Option Addr) (k lo hi : Nat) (f : Nat → Value) (w : World) (hn : c.S.length ≤ 1048576) (h : PRow w 75 3 lo hi c.S.length (.slice a c.S.length k) f) :
    Calls Tryd.prog 17 #[.agg #[.int .i64 c.kind, .int .i64 c.A, .int .i64 c.B, .int .i64 c.C, .int .i64 c.D, (.slice a c.S.length k), .int .i64 c.wd, .int .i64 c.ht, .string c.px, .int .i64 c.lv, .int .i64 c.fo, .int .i64 code], .int .i64 1] w fun e w' => e = .returned (.int .i64 (1 + (c.S.length : Int) * 3)) ∧ PRow w' 75 3 lo hi c.S.length (.slice a c.S.length k) markVecSV ∧ Apart lo hi w w' := by
  have B1 := below1 w (.cells #[.int .i64 c.kind, .int .i64 c.A, .int .i64 c.B, .int .i64 c.C, .int .i64 c.D, (.slice a c.S.length k), .int .i64 c.wd, .int .i64 c.ht, .string c.px, .int .i64 c.lv, .int .i64 c.fo, .int .i64 code] 41)
  have O1 := blk_new w [.int .i64 c.kind, .int .i64 c.A, .int .i64 c.B, .int .i64 c.C, .int .i64 c.D, (.slice a c.S.length k), .int .i64 c.wd, .int .i64 c.ht, .string c.px, .int .i64 c.lv, .int .i64 c.fo, .int .i64 code] 41
  have cM := hide (markCommand_any c a k lo hi f _ hn (h.kept B1))
  have p0 := (O1).cell 0 _ rfl
  have p1 := (O1).cell 1 _ rfl
  have p2 := (O1).cell 2 _ rfl
  have p3 := (O1).cell 3 _ rfl
  have p4 := (O1).cell 4 _ rfl
  have p5 := (O1).cell 5 _ rfl
  have p6 := (O1).cell 6 _ rfl
  have p7 := (O1).cell 7 _ rfl
  have p8 := (O1).cell 8 _ rfl
  have p9 := (O1).cell 9 _ rfl
  have p10 := (O1).cell 10 _ rfl
  have p11 := (O1).cell 11 _ rfl
  have HB := hide B1
  clear B1 h O1
  go_enter Tryd.func17, Tryd.ntmps17
  go_wp2_with fail
  refine (unhide cM).mono ?_
  rintro e w1 ⟨rfl, hr, hg⟩
  have HG := hide (apartB (unhide HB) hg)
  have HR := hide hr
  clear hr hg cM p0 p1 p2 p3 p4 p5 p6 p7 p8 p9 p10 p11
  go_wp2_with fail
  go_ret
  exact ⟨rfl, unhide HR, unhide HG⟩
set_option maxHeartbeats 2000000 in
set_option maxRecDepth 100000 in
theorem heldCommand_any (c : Cm) (a : Option Addr) (k lo hi : Nat) (w : World) (hn : c.S.length ≤ 1048576) (h : PRow w 75 3 lo hi c.S.length (.slice a c.S.length k) markVecSV) :
    Calls Tryd.prog 55 #[.agg #[.int .i64 c.kind, .int .i64 c.A, .int .i64 c.B, .int .i64 c.C, .int .i64 c.D, (.slice a c.S.length k), .int .i64 c.wd, .int .i64 c.ht, .string c.px, .int .i64 c.lv, .int .i64 c.fo], .int .i64 1] w fun e w' => e = .returned (.int .i64 (1 + (c.S.length : Int) * 3)) ∧ Below w.heap.size w w' := by
  have B1 := below1 w (.cells #[.int .i64 c.kind, .int .i64 c.A, .int .i64 c.B, .int .i64 c.C, .int .i64 c.D, (.slice a c.S.length k), .int .i64 c.wd, .int .i64 c.ht, .string c.px, .int .i64 c.lv, .int .i64 c.fo] 35)
  have O1 := blk_new w [.int .i64 c.kind, .int .i64 c.A, .int .i64 c.B, .int .i64 c.C, .int .i64 c.D, (.slice a c.S.length k), .int .i64 c.wd, .int .i64 c.ht, .string c.px, .int .i64 c.lv, .int .i64 c.fo] 35
  have cM := hide (heldVecS_any c.S.length lo hi (.slice a c.S.length k) _ hn (h.kept B1))
  have hk : decide (1 + (c.S.length : Int) * 3 < 0) = false := by simp; omega
  have p0 := (O1).cell 0 _ rfl
  have p1 := (O1).cell 1 _ rfl
  have p2 := (O1).cell 2 _ rfl
  have p3 := (O1).cell 3 _ rfl
  have p4 := (O1).cell 4 _ rfl
  have p5 := (O1).cell 5 _ rfl
  have p6 := (O1).cell 6 _ rfl
  have p7 := (O1).cell 7 _ rfl
  have p8 := (O1).cell 8 _ rfl
  have p9 := (O1).cell 9 _ rfl
  have p10 := (O1).cell 10 _ rfl
  have HB := hide B1
  clear B1 h O1
  go_enter Tryd.func55, Tryd.ntmps55
  go_wp2_with fail
  refine (unhide cM).mono ?_
  rintro e w1 ⟨rfl, hw⟩
  rw [hw]
  have B2 := HB
  clear hw w1
  clear cM p0 p1 p2 p3 p4 p5 p6 p7 p8 p9 p10
  go_wp2_with fail
  go_ret
  exact ⟨rfl, unhide B2⟩
set_option maxHeartbeats 2000000 in
set_option maxRecDepth 100000 in
theorem heldCommandOut_any (c : Cm) (code : Int) (a : Option Addr) (k lo hi : Nat) (w : World) (hn : c.S.length ≤ 1048576) (h : PRow w 75 3 lo hi c.S.length (.slice a c.S.length k) markVecSV) :
    Calls Tryd.prog 18 #[.agg #[.int .i64 c.kind, .int .i64 c.A, .int .i64 c.B, .int .i64 c.C, .int .i64 c.D, (.slice a c.S.length k), .int .i64 c.wd, .int .i64 c.ht, .string c.px, .int .i64 c.lv, .int .i64 c.fo, .int .i64 code], .int .i64 1] w fun e w' => e = .returned (.int .i64 (1 + (c.S.length : Int) * 3)) ∧ Below w.heap.size w w' := by
  have B1 := below1 w (.cells #[.int .i64 c.kind, .int .i64 c.A, .int .i64 c.B, .int .i64 c.C, .int .i64 c.D, (.slice a c.S.length k), .int .i64 c.wd, .int .i64 c.ht, .string c.px, .int .i64 c.lv, .int .i64 c.fo, .int .i64 code] 41)
  have O1 := blk_new w [.int .i64 c.kind, .int .i64 c.A, .int .i64 c.B, .int .i64 c.C, .int .i64 c.D, (.slice a c.S.length k), .int .i64 c.wd, .int .i64 c.ht, .string c.px, .int .i64 c.lv, .int .i64 c.fo, .int .i64 code] 41
  have cM := hide (heldCommand_any c a k lo hi _ hn (h.kept B1))
  have hk : decide (1 + (c.S.length : Int) * 3 < 0) = false := by simp; omega
  have p0 := (O1).cell 0 _ rfl
  have p1 := (O1).cell 1 _ rfl
  have p2 := (O1).cell 2 _ rfl
  have p3 := (O1).cell 3 _ rfl
  have p4 := (O1).cell 4 _ rfl
  have p5 := (O1).cell 5 _ rfl
  have p6 := (O1).cell 6 _ rfl
  have p7 := (O1).cell 7 _ rfl
  have p8 := (O1).cell 8 _ rfl
  have p9 := (O1).cell 9 _ rfl
  have p10 := (O1).cell 10 _ rfl
  have p11 := (O1).cell 11 _ rfl
  have HB := hide B1
  clear B1 h O1
  go_enter Tryd.func18, Tryd.ntmps18
  go_wp2_with fail
  refine (unhide cM).mono ?_
  rintro e w1 ⟨rfl, hx⟩
  have B2 := hide (below_call (unhide HB) hx)
  clear hx
  clear cM p0 p1 p2 p3 p4 p5 p6 p7 p8 p9 p10 p11
  go_wp2_with fail
  go_ret
  exact ⟨rfl, unhide B2⟩
end Go.Proofs.YtnffnjljjecphaaDoor

namespace Go.Proofs.YtnffnjljjecphaaDoor
open Go.RowKit Go.Sort
set_option linter.unusedVariables false
set_option linter.unusedSimpArgs false

theorem Blk.apartC {w w' : World} {b lo hi : Nat} {cs : List Value} {t : TypeId} (h : Blk w b cs t) (ha : Apart lo hi w w') (hd : b < lo ∨ hi ≤ b) : Blk w' b cs t := (ha.block b h.lt hd).trans h
theorem belowAp {B lo hi : Nat} {w w1 w2 : World} (h : Below B w w1) (ha : Apart lo hi w1 w2) (hB : B ≤ lo) (hs : B ≤ w1.heap.size) : Below B w w2 :=
  h.trans ⟨ha.os, ha.tape, ha.output, ha.size, fun k hk => ha.block k (by omega) (.inl (by omega))⟩
theorem crCm_len (s : ByteArray) : (crCm s).S.length ≤ 6 := by
  unfold crCm
  split
  · split
    · simp [zeroCm]
    · rename_i c q h
      split
      · exact readCm_len h
      · simp [zeroCm]
  · simp [zeroCm]
theorem out_cr {w' : World} {B : Nat} {c : Cm} {code : Int} {e : Ending} (h : OutCr w' B c code e) : ∃ a k, e = .returned (.agg #[.int .i64 c.kind, .int .i64 c.A, .int .i64 c.B, .int .i64 c.C, .int .i64 c.D, (.slice a c.S.length k), .int .i64 c.wd, .int .i64 c.ht, .string c.px, .int .i64 c.lv, .int .i64 c.fo, .int .i64 code]) ∧ Dirs w' a c.S c.S.length ∧ PRow w' 75 3 B w'.heap.size c.S.length (.slice a c.S.length k) (vdV c.S) := by
  obtain ⟨v, he, ho⟩ := h
  obtain ⟨a, k, rfl⟩ := own_formC ho
  exact ⟨a, k, he, (dirs_own ho).1, PRow.of ho (flatD_val c.S)⟩

set_option maxHeartbeats 4000000 in
set_option maxRecDepth 100000 in
theorem lawCommandRead (s : ByteArray) (p : Addr) (w : World) (hs : s.size ≤ 1048576) (hE : ErrCmd p w) :
    Calls Tryd.prog 5 #[.string s] w fun e w' => e = .returned (.bool true) ∧ Below w.heap.size w w' := by
  have HE := hide hE
  clear hE
  have cS := hide (fun W => (specCommandRead_any s W hs).mono fun e w' h => (⟨out_cr h.1, h.2⟩ : _ ∧ Below W.heap.size W w'))
  have cR := hide (fun W hW => (implCommandRead_any s p W hs hW).mono fun e w' h => (⟨out_cr h.1, h.2⟩ : _ ∧ Below W.heap.size W w'))
  have hL := crCm_len s
  generalize crCm s = c at *
  generalize crCode s = code at *
  have h0 : ¬ (1048576 : Int) < (s.size : Int) := by omega
  go_enter Tryd.func5, Tryd.ntmps5
  go_wp2_with fail
  refine (unhide cS _).mono ?_
  rintro e w1 ⟨⟨a1, k1, rfl, hd, hp⟩, hx⟩
  have Z1 := below1 w1 (.cells #[.int .i64 c.kind, .int .i64 c.A, .int .i64 c.B, .int .i64 c.C, .int .i64 c.D, (.slice a1 c.S.length k1), .int .i64 c.wd, .int .i64 c.ht, .string c.px, .int .i64 c.lv, .int .i64 c.fo, .int .i64 code] 41)
  have Y1 := hide (below_call hx Z1)
  have D1 := hide (hd.kept Z1)
  have O1 := hide (blk_new w1 [.int .i64 c.kind, .int .i64 c.A, .int .i64 c.B, .int .i64 c.C, .int .i64 c.D, (.slice a1 c.S.length k1), .int .i64 c.wd, .int .i64 c.ht, .string c.px, .int .i64 c.lv, .int .i64 c.fo, .int .i64 code] 41)
  clear hx hd hp Z1
  go_wp2_with fail
  generalize w1.alloc (.cells #[.int .i64 c.kind, .int .i64 c.A, .int .i64 c.B, .int .i64 c.C, .int .i64 c.D, (.slice a1 c.S.length k1), .int .i64 c.wd, .int .i64 c.ht, .string c.px, .int .i64 c.lv, .int .i64 c.fo, .int .i64 code] 41) = W1 at *
  generalize w1.heap.size = b3 at *
  clear w1
  refine (unhide cR _ ((unhide HE).kept (unhide Y1))).mono ?_
  rintro e w2 ⟨⟨a2, k2, rfl, hd, hp⟩, hx⟩
  have Z2 := below1 w2 (.cells #[.int .i64 c.kind, .int .i64 c.A, .int .i64 c.B, .int .i64 c.C, .int .i64 c.D, (.slice a2 c.S.length k2), .int .i64 c.wd, .int .i64 c.ht, .string c.px, .int .i64 c.lv, .int .i64 c.fo, .int .i64 code] 41)
  have Y2 := hide (below_call hx Z2)
  have D2 := hide (hd.kept Z2)
  have P2 := hide (hp.kept Z2)
  have O2 := hide (blk_new w2 [.int .i64 c.kind, .int .i64 c.A, .int .i64 c.B, .int .i64 c.C, .int .i64 c.D, (.slice a2 c.S.length k2), .int .i64 c.wd, .int .i64 c.ht, .string c.px, .int .i64 c.lv, .int .i64 c.fo, .int .i64 code] 41)
  have O1b := hide ((unhide O1).kept (unhide Y2))
  have hlo := hx.size
  have hb4 := (unhide O2).lt
  clear hx hd hp Z2
  have p0 := (unhide O1b).cell 0 _ rfl
  have p1 := (unhide O1b).cell 1 _ rfl
  have p2 := (unhide O1b).cell 2 _ rfl
  have p3 := (unhide O1b).cell 3 _ rfl
  have p4 := (unhide O1b).cell 4 _ rfl
  have p5 := (unhide O1b).cell 5 _ rfl
  have p6 := (unhide O1b).cell 6 _ rfl
  have p7 := (unhide O1b).cell 7 _ rfl
  have p8 := (unhide O1b).cell 8 _ rfl
  have p9 := (unhide O1b).cell 9 _ rfl
  have p10 := (unhide O1b).cell 10 _ rfl
  have p11 := (unhide O1b).cell 11 _ rfl
  have q0 := (unhide O2).cell 0 _ rfl
  have q1 := (unhide O2).cell 1 _ rfl
  have q2 := (unhide O2).cell 2 _ rfl
  have q3 := (unhide O2).cell 3 _ rfl
  have q4 := (unhide O2).cell 4 _ rfl
  have q5 := (unhide O2).cell 5 _ rfl
  have q6 := (unhide O2).cell 6 _ rfl
  have q7 := (unhide O2).cell 7 _ rfl
  have q8 := (unhide O2).cell 8 _ rfl
  have q9 := (unhide O2).cell 9 _ rfl
  have q10 := (unhide O2).cell 10 _ rfl
  have q11 := (unhide O2).cell 11 _ rfl
  go_wp2_with fail
  clear p0 p1 p2 p3 p4 p5 p6 p7 p8 p9 p10 p11 q0 q1 q2 q3 q4 q5 q6 q7 q8 q9 q10 q11
  generalize w2.alloc (.cells #[.int .i64 c.kind, .int .i64 c.A, .int .i64 c.B, .int .i64 c.C, .int .i64 c.D, (.slice a2 c.S.length k2), .int .i64 c.wd, .int .i64 c.ht, .string c.px, .int .i64 c.lv, .int .i64 c.fo, .int .i64 code] 41) = W2 at *
  generalize w2.heap.size = b4 at *
  clear w2
  refine (eqCommandOut_same c code a2 a1 k2 k1 _ (by omega) (unhide D2) ((unhide D1).kept (unhide Y2))).mono ?_
  rintro e w3 ⟨rfl, hx⟩
  have Y3 := hide (below_call (unhide Y2) hx)
  have P3 := hide ((unhide P2).kept hx)
  have O3 := hide ((unhide O2).kept hx)
  have hs3 := (unhide Y3).size
  clear hx Y2 P2 O2 D2 O1b
  have q0 := (unhide O3).cell 0 _ rfl
  have q1 := (unhide O3).cell 1 _ rfl
  have q2 := (unhide O3).cell 2 _ rfl
  have q3 := (unhide O3).cell 3 _ rfl
  have q4 := (unhide O3).cell 4 _ rfl
  have q5 := (unhide O3).cell 5 _ rfl
  have q6 := (unhide O3).cell 6 _ rfl
  have q7 := (unhide O3).cell 7 _ rfl
  have q8 := (unhide O3).cell 8 _ rfl
  have q9 := (unhide O3).cell 9 _ rfl
  have q10 := (unhide O3).cell 10 _ rfl
  have q11 := (unhide O3).cell 11 _ rfl
  go_wp2_with fail
  clear q0 q1 q2 q3 q4 q5 q6 q7 q8 q9 q10 q11
  refine (markCommandOut_any c code a2 k2 W1.heap.size b4 _ _ (by omega) (unhide P3)).mono ?_
  rintro e w4 ⟨rfl, hp, ha⟩
  have Y4 := hide (belowAp (unhide Y3) ha (Nat.le_refl _) hs3)
  have O4 := hide ((unhide O3).apartC ha (.inr (Nat.le_refl _)))
  have P4 := hide hp
  clear hp ha Y3 O3 P3
  obtain ⟨K, hK⟩ : ∃ K : Int, K = 1 + (c.S.length : Int) * 3 := ⟨_, rfl⟩
  have hk0 : ¬ K < 0 := by omega
  have cH : Hid (∀ W : World, PRow W 75 3 W1.heap.size b4 c.S.length (.slice a2 c.S.length k2) markVecSV → Calls Tryd.prog 18 #[.agg #[.int .i64 c.kind, .int .i64 c.A, .int .i64 c.B, .int .i64 c.C, .int .i64 c.D, (.slice a2 c.S.length k2), .int .i64 c.wd, .int .i64 c.ht, .string c.px, .int .i64 c.lv, .int .i64 c.fo, .int .i64 code], .int .i64 1] W fun e w' => e = .returned (.int .i64 K) ∧ Below W.heap.size W w') := hide (fun W h => by rw [hK]; exact heldCommandOut_any c code a2 k2 W1.heap.size b4 W (by omega) h)
  rw [← hK]
  clear hK
  have q0 := (unhide O4).cell 0 _ rfl
  have q1 := (unhide O4).cell 1 _ rfl
  have q2 := (unhide O4).cell 2 _ rfl
  have q3 := (unhide O4).cell 3 _ rfl
  have q4 := (unhide O4).cell 4 _ rfl
  have q5 := (unhide O4).cell 5 _ rfl
  have q6 := (unhide O4).cell 6 _ rfl
  have q7 := (unhide O4).cell 7 _ rfl
  have q8 := (unhide O4).cell 8 _ rfl
  have q9 := (unhide O4).cell 9 _ rfl
  have q10 := (unhide O4).cell 10 _ rfl
  have q11 := (unhide O4).cell 11 _ rfl
  go_wp2_with fail
  clear q0 q1 q2 q3 q4 q5 q6 q7 q8 q9 q10 q11
  refine (unhide cH _ (unhide P4)).mono ?_
  rintro e w5 ⟨rfl, hx⟩
  have Y5 := hide (below_call (unhide Y4) hx)
  have O5 := hide ((unhide O4).kept hx)
  have P5 := hide ((unhide P4).kept hx)
  clear hx Y4 O4 P4
  go_wp2_with fail
  refine (unhide cR _ ((unhide HE).kept (below_call (unhide Y1) (unhide Y5)))).mono ?_
  rintro e w6 ⟨⟨a7, k7, rfl, hd, hp⟩, hx⟩
  have Z6 := below1 w6 (.cells #[.int .i64 c.kind, .int .i64 c.A, .int .i64 c.B, .int .i64 c.C, .int .i64 c.D, (.slice a7 c.S.length k7), .int .i64 c.wd, .int .i64 c.ht, .string c.px, .int .i64 c.lv, .int .i64 c.fo, .int .i64 code] 41)
  have Y6 := hide (below_call (below_call (unhide Y5) hx) Z6)
  have D6 := hide (hd.kept Z6)
  have O6 := hide (((unhide O5).kept hx).kept Z6)
  have P6 := hide (((unhide P5).kept hx).kept Z6)
  have O7 := hide (blk_new w6 [.int .i64 c.kind, .int .i64 c.A, .int .i64 c.B, .int .i64 c.C, .int .i64 c.D, (.slice a7 c.S.length k7), .int .i64 c.wd, .int .i64 c.ht, .string c.px, .int .i64 c.lv, .int .i64 c.fo, .int .i64 code] 41)
  have O1c := hide ((unhide O1).kept (unhide Y6))
  clear hx hd hp Z6 Y5 O5 P5
  have p0 := (unhide O1c).cell 0 _ rfl
  have p1 := (unhide O1c).cell 1 _ rfl
  have p2 := (unhide O1c).cell 2 _ rfl
  have p3 := (unhide O1c).cell 3 _ rfl
  have p4 := (unhide O1c).cell 4 _ rfl
  have p5 := (unhide O1c).cell 5 _ rfl
  have p6 := (unhide O1c).cell 6 _ rfl
  have p7 := (unhide O1c).cell 7 _ rfl
  have p8 := (unhide O1c).cell 8 _ rfl
  have p9 := (unhide O1c).cell 9 _ rfl
  have p10 := (unhide O1c).cell 10 _ rfl
  have p11 := (unhide O1c).cell 11 _ rfl
  have q0 := (unhide O7).cell 0 _ rfl
  have q1 := (unhide O7).cell 1 _ rfl
  have q2 := (unhide O7).cell 2 _ rfl
  have q3 := (unhide O7).cell 3 _ rfl
  have q4 := (unhide O7).cell 4 _ rfl
  have q5 := (unhide O7).cell 5 _ rfl
  have q6 := (unhide O7).cell 6 _ rfl
  have q7 := (unhide O7).cell 7 _ rfl
  have q8 := (unhide O7).cell 8 _ rfl
  have q9 := (unhide O7).cell 9 _ rfl
  have q10 := (unhide O7).cell 10 _ rfl
  have q11 := (unhide O7).cell 11 _ rfl
  go_wp2_with fail
  clear p0 p1 p2 p3 p4 p5 p6 p7 p8 p9 p10 p11 q0 q1 q2 q3 q4 q5 q6 q7 q8 q9 q10 q11
  generalize w6.alloc (.cells #[.int .i64 c.kind, .int .i64 c.A, .int .i64 c.B, .int .i64 c.C, .int .i64 c.D, (.slice a7 c.S.length k7), .int .i64 c.wd, .int .i64 c.ht, .string c.px, .int .i64 c.lv, .int .i64 c.fo, .int .i64 code] 41) = W6 at *
  refine (eqCommandOut_same c code a7 a1 k7 k1 _ (by omega) (unhide D6) ((unhide D1).kept (unhide Y6))).mono ?_
  rintro e w7 ⟨rfl, hx⟩
  have Y7 := hide (below_call (unhide Y6) hx)
  have P7 := hide ((unhide P6).kept hx)
  have O8 := hide ((unhide O6).kept hx)
  clear hx Y6 O6 P6 D6 O7 O1c
  have q0 := (unhide O8).cell 0 _ rfl
  have q1 := (unhide O8).cell 1 _ rfl
  have q2 := (unhide O8).cell 2 _ rfl
  have q3 := (unhide O8).cell 3 _ rfl
  have q4 := (unhide O8).cell 4 _ rfl
  have q5 := (unhide O8).cell 5 _ rfl
  have q6 := (unhide O8).cell 6 _ rfl
  have q7 := (unhide O8).cell 7 _ rfl
  have q8 := (unhide O8).cell 8 _ rfl
  have q9 := (unhide O8).cell 9 _ rfl
  have q10 := (unhide O8).cell 10 _ rfl
  have q11 := (unhide O8).cell 11 _ rfl
  go_wp2_with fail
  clear q0 q1 q2 q3 q4 q5 q6 q7 q8 q9 q10 q11
  refine (unhide cH _ (unhide P7)).mono ?_
  rintro e w8 ⟨rfl, hx⟩
  have Y8 := hide (below_call (unhide Y1) (below_call (unhide Y7) hx))
  clear hx
  go_wp2_with fail
  go_ret
  exact ⟨rfl, unhide Y8⟩
set_option maxRecDepth 100000 in
theorem lawCommandRead_big (s : ByteArray) (w : World) (hs : 1048576 < s.size) :
    Calls Tryd.prog 5 #[.string s] w fun e w' => e = .returned (.bool true) ∧ Below w.heap.size w w' := by
  have h0 : (1048576 : Int) < (s.size : Int) := by omega
  go_enter Tryd.func5, Tryd.ntmps5
  go_wp2_with fail
  go_ret
  exact ⟨rfl, Below.refl _ _⟩
theorem lawCommandRead_all (s : ByteArray) (ws : s.size ≤ maxLen) (w : World) (hE : ∃ p, ErrCmd p w) :
    Calls Tryd.prog 5 #[.string s] w fun e w' => e = .returned (.bool true) ∧ Below w.heap.size w w' := by
  obtain ⟨p, hp⟩ := hE
  by_cases h : s.size ≤ 1048576
  · exact lawCommandRead s p w h hp
  · exact lawCommandRead_big s w (by omega)
end Go.Proofs.YtnffnjljjecphaaDoor

namespace Go.Proofs.YtnffnjljjecphaaDoor
open Go.RowKit Go.Deep Go.ChangeShapes
set_option linter.unusedVariables false

theorem vA_range (n : Nat) (f : Nat → D3) {i : Nat} (h : i < n) : vA ((List.range n).map f) i = f i := by
  unfold vA
  rw [List.getD_eq_getElem?_getD, List.getElem?_map, List.getElem?_range h]
  rfl
theorem cellsDV : Tryd.prog.cellsOf 101 = 3 := by kernel_rfl
theorem cellsDI : Tryd.prog.cellsOf 2 = 1 := by kernel_rfl
theorem spot_noneD {w : World} {x : Addr} {v : Value} (h : w.cell? x = some v) : x.spot = none := by
  cases hs : x.spot with
  | none => rfl
  | some k =>
    exfalso
    unfold World.cell? at h
    rw [hs] at h
    revert h
    split <;> simp
set_option maxRecDepth 100000 in
theorem open_dirs {H : Type} {enc : TypeId × Value → H} {w : World} {fuel : Nat} {a : Option Addr} {len cap : Nat} {x : DataW H × List MemPlace}
    (h : DataW.trod enc Tryd.prog w 0 (fun _ => true) true fuel 24 [.slice a len cap] = some x) : ∃ L : List D3, L.length = len ∧ Dirs w a L len ∧ len ≤ maxLen := by
  rcases open_slice Tryd.underlying24 h with ⟨hcs, _⟩ | ⟨a', l, c, m, n, D, Pl, hcs, _, hl, hm, hmm, _, hel⟩
  · simp at hcs
    obtain ⟨rfl, rfl, rfl⟩ := hcs
    exact ⟨[], rfl, .inl rfl, Nat.zero_le _⟩
  · simp at hcs
    obtain ⟨rfl, rfl, rfl⟩ := hcs
    have hlm : len ≤ m := by rw [hmm]; simp; exact hl
    have each : ∀ i, i < len → ∃ s : D3, w.cell? (a'.add (i * 3)) = some (.int .i64 s.1) ∧ w.cell? (a'.add (i * 3 + 1)) = some (.int .i64 s.2.1) ∧ w.cell? (a'.add (i * 3 + 2)) = some (.int .i64 s.2.2) := by
      intro i hi
      obtain ⟨cs, h1, h2⟩ := hel i (by omega)
      rw [cellsDV] at h1
      obtain ⟨_, hlen, hcell⟩ := World.cells?_some h1
      match cs, hlen with
      | [v1, v2, v3], _ =>
        obtain ⟨z0, z1, z2, n2, _, _, k0, k1, k2⟩ := trod_struct3 Tryd.underlying101 h2
        have k0' : DataW.trod enc Tryd.prog w 0 (fun _ => true) true n2 2 (([v1, v2, v3].drop 0).take (Tryd.prog.cellsOf 2)) = some z0 := k0
        have k1' : DataW.trod enc Tryd.prog w 0 (fun _ => true) true n2 2 (([v1, v2, v3].drop 1).take (Tryd.prog.cellsOf 2)) = some z1 := k1
        have k2' : DataW.trod enc Tryd.prog w 0 (fun _ => true) true n2 2 (([v1, v2, v3].drop 2).take (Tryd.prog.cellsOf 2)) = some z2 := k2
        rw [cellsDI] at k0' k1' k2'
        obtain ⟨i1, e1, _, _⟩ := DataW.trod_int Tryd.underlying2 k0'
        obtain ⟨i2, e2, _, _⟩ := DataW.trod_int Tryd.underlying2 k1'
        obtain ⟨i3, e3, _, _⟩ := DataW.trod_int Tryd.underlying2 k2'
        simp at e1 e2 e3
        subst e1 e2 e3
        have c0 := hcell 0 (by omega)
        have c1 := hcell 1 (by omega)
        have c2 := hcell 2 (by omega)
        rw [add_add] at c0 c1 c2
        exact ⟨(i1, i2, i3), by simpa using c0, by simpa using c1, by simpa using c2⟩
    obtain ⟨f, hf⟩ := choose_lt each
    refine ⟨(List.range len).map f, by simp, ?_, by omega⟩
    rcases Nat.eq_zero_or_pos len with h0 | h0
    · exact .inl h0
    · have hs : (a'.add (0 * 3)).spot = none := spot_noneD (hf 0 h0).1
      have hb : (a'.add (0 * 3)).block < w.heap.size := World.block_lt_of_cell? w _ (hf 0 h0).1
      obtain ⟨bx, ox, sx⟩ := a'
      have hs' : sx = none := by simpa [Addr.add] using hs
      subst hs'
      have hA : ∀ j, (⟨bx, ox, none⟩ : Addr).add j = ⟨bx, ox + j, none⟩ := fun j => by unfold Addr.add; split <;> simp_all
      refine .inr ⟨bx, ox, rfl, by simpa [Addr.add] using hb, fun i hi => ?_⟩
      obtain ⟨c0, c1, c2⟩ := hf i hi
      rw [hA] at c0 c1 c2
      rw [vA_range len f hi]
      exact ⟨c0, by rw [Nat.add_assoc]; exact c1, by rw [Nat.add_assoc]; exact c2⟩
end Go.Proofs.YtnffnjljjecphaaDoor
