/- Several texts in one: StD. -/
import Derived.Deep.CutBlock
import Derived.Test.YtackifnnhjbgbaaQFnFrameOwn13
namespace Go.Proofs.Ytackifnnhjbgbaa
set_option linter.unusedVariables false
set_option linter.unusedSimpArgs false
set_option maxRecDepth 100000
set_option maxHeartbeats 8000000
section
open Go.RowKit
theorem cA {p : Int → Bool} {d : Array Int} {j i : Nat} (h : ¬ i ≤ j ∨ p d[i]! = false) : Sort.scanUp p d j i = i := by
 rw [Sort.scanUp, if_neg]
 rcases h with h | h
 ·simp [h]
 ·simp [h]
theorem iZ {p : Int → Bool} {d : Array Int} {j i : Nat} (h0 : i ≤ j) (h : p d[i]! = true) : Sort.scanUp p d j i = Sort.scanUp p d j (i + 1) := by
 conv => lhs; rw [Sort.scanUp, if_pos (show (decide (i ≤ j) && p d[i]!) = true by simp [h0, h])]
theorem bG {p : Int → Bool} {d : Array Int} {j i : Nat} (h : ¬ i ≤ j ∨ p d[j]! = false) : Sort.scanDown p d i j = j := by
 cases j with
 | zero => rfl
 | succ j =>
  rw [Sort.scanDown, if_neg]
  rcases h with h | h
  ·simp [h]
  ·simp [h]
theorem fs {p : Int → Bool} {d : Array Int} {j i : Nat} (h0 : i ≤ j + 1) (h : p d[j + 1]! = true) : Sort.scanDown p d i (j + 1) = Sort.scanDown p d i j := by
 conv => lhs; rw [Sort.scanDown, if_pos (show (decide (i ≤ j + 1) && p d[j + 1]!) = true by simp [h0, h])]
theorem gC {a i j i2 j2 : Nat} {d : Array Int} (h1 : i2 = Sort.scanUp (fun x => !Sort.ltInt d[a]! x) d j i) (h2 : j2 = Sort.scanDown (fun x => Sort.ltInt d[a]! x) d i2 j) (h : j2 < i2) : Sort.partEqLoop Sort.ltInt a i j d = (i2, d) := by
 rw [Sort.partEqLoop_eq, ← h1, ← h2, if_pos h]
theorem ig {a i j i2 j2 : Nat} {d : Array Int} (h1 : i2 = Sort.scanUp (fun x => !Sort.ltInt d[a]! x) d j i) (h2 : j2 = Sort.scanDown (fun x => Sort.ltInt d[a]! x) d i2 j) (h : ¬ j2 < i2) : Sort.partEqLoop Sort.ltInt a i j d = Sort.partEqLoop Sort.ltInt a (i2 + 1) (j2 - 1) (Sort.swp d i2 j2) := by
 conv => lhs; rw [Sort.partEqLoop_eq, ← h1, ← h2, if_neg h]
theorem iN {a i j i2 j2 : Nat} {d : Array Int} (h1 : i2 = Sort.scanUp (fun x => Sort.ltInt x d[a]!) d j i) (h2 : j2 = Sort.scanDown (fun x => !Sort.ltInt x d[a]!) d i2 j) (h : j2 < i2) : Sort.partLoop Sort.ltInt a i j d = (j2, d) := by
 rw [Sort.partLoop_eq, ← h1, ← h2, if_pos h]
theorem jm {a i j i2 j2 : Nat} {d : Array Int} (h1 : i2 = Sort.scanUp (fun x => Sort.ltInt x d[a]!) d j i) (h2 : j2 = Sort.scanDown (fun x => !Sort.ltInt x d[a]!) d i2 j) (h : ¬ j2 < i2) : Sort.partLoop Sort.ltInt a i j d = Sort.partLoop Sort.ltInt a (i2 + 1) (j2 - 1) (Sort.swp d i2 j2) := by
 conv => lhs; rw [Sort.partLoop_eq, ← h1, ← h2, if_neg h]
def bE (a : Nat) (r : Nat × Array Int) : Nat × Bool × Array Int := (r.1, false, Sort.swp r.2 r.1 a)
def bV (d : Array Int) (a b : Nat) : Nat × Bool × Array Int :=
 if Sort.scanDown (fun x => !Sort.ltInt x d[a]!) d (Sort.scanUp (fun x => Sort.ltInt x d[a]!) d (b - 1) (a + 1)) (b - 1) < Sort.scanUp (fun x => Sort.ltInt x d[a]!) d (b - 1) (a + 1) then
  (Sort.scanDown (fun x => !Sort.ltInt x d[a]!) d (Sort.scanUp (fun x => Sort.ltInt x d[a]!) d (b - 1) (a + 1)) (b - 1), true, Sort.swp d (Sort.scanDown (fun x => !Sort.ltInt x d[a]!) d (Sort.scanUp (fun x => Sort.ltInt x d[a]!) d (b - 1) (a + 1)) (b - 1)) a)
 else bE a (Sort.partLoop Sort.ltInt a (Sort.scanUp (fun x => Sort.ltInt x d[a]!) d (b - 1) (a + 1) + 1) (Sort.scanDown (fun x => !Sort.ltInt x d[a]!) d (Sort.scanUp (fun x => Sort.ltInt x d[a]!) d (b - 1) (a + 1)) (b - 1) - 1) (Sort.swp d (Sort.scanUp (fun x => Sort.ltInt x d[a]!) d (b - 1) (a + 1)) (Sort.scanDown (fun x => !Sort.ltInt x d[a]!) d (Sort.scanUp (fun x => Sort.ltInt x d[a]!) d (b - 1) (a + 1)) (b - 1))))
theorem jl (d : Array Int) (a b pv : Nat) : Sort.partition Sort.ltInt d a b pv = bV (Sort.swp d a pv) a b := by
 unfold Sort.partition bV bE
 rfl
theorem gB {a b i j i2 j2 : Nat} {d : Array Int} (hi : i = a + 1) (hj : j = b - 1) (h1 : i2 = Sort.scanUp (fun x => Sort.ltInt x d[a]!) d j i) (h2 : j2 = Sort.scanDown (fun x => !Sort.ltInt x d[a]!) d i2 j) (h : j2 < i2) : bV d a b = (j2, true, Sort.swp d j2 a) := by
 subst hi hj
 unfold bV
 rw [← h1, ← h2, if_pos h]
theorem ie {a b i j i2 j2 : Nat} {d : Array Int} (hi : i = a + 1) (hj : j = b - 1) (h1 : i2 = Sort.scanUp (fun x => Sort.ltInt x d[a]!) d j i) (h2 : j2 = Sort.scanDown (fun x => !Sort.ltInt x d[a]!) d i2 j) (h : ¬ j2 < i2) : bV d a b = bE a (Sort.partLoop Sort.ltInt a (i2 + 1) (j2 - 1) (Sort.swp d i2 j2)) := by
 subst hi hj
 unfold bV
 rw [← h1, ← h2, if_neg h]
abbrev At8 (n : Nat) (w0 : World) (g : Nat) (dk : Array Int) (wr : World) : Prop := StK n w0 g (fun _ => True) dk wr
theorem fX (g cap n a b pv : Nat) (d : Array Int) (w0 w : World) (hn : d.size = n) (hS : aN w0 g d w) (hap : a ≤ pv) (hpb : pv < b) (hb : b ≤ n) (hsz : n ≤ 1048576) :
  Calls Try.prog 44 #[.slice (some ⟨g, 0, none⟩) n cap, .int .i64 a, .int .i64 b, .int .i64 pv] w fun e w' => e = .returned (.int .i64 (Sort.partitionEqual Sort.ltInt d a b pv).1) ∧ aN w0 g (Sort.partitionEqual Sort.ltInt d a b pv).2 w' := by
 obtain ⟨R, HR⟩ : ∃ R, Hid (R = Sort.partitionEqual Sort.ltInt d a b pv) := ⟨_, yz rfl⟩
 have HS : Hid (StK n w0 g (fun e => Sort.partEqLoop Sort.ltInt a (a + 1) (b - 1) (Sort.swp e a pv) = R) d w) := yz ⟨hn, (yx HR).symm, hS⟩
 rw [← yx HR]
 clear hS hn HR
 obtain ⟨xa, Hxa⟩ : ∃ x, Hid (x = d[a]!) := ⟨_, yz rfl⟩
 obtain ⟨xp, Hxp⟩ : ∃ x, Hid (x = d[pv]!) := ⟨_, yz rfl⟩
 have cxa : w.cell? ⟨g, a, none⟩ = some (.int .u8 xa) := by rw [yx Hxa]; exact (yx HS).row.cells (a) (by have := (yx HS).size; omega)
 have cxp : w.cell? ⟨g, pv, none⟩ = some (.int .u8 xp) := by rw [yx Hxp]; exact (yx HS).row.cells (pv) (by have := (yx HS).size; omega)
 have fxa := (yx HS).row.free (a) (by have := (yx HS).size; omega)
 have fxp := (yx HS).row.free (pv) (by have := (yx HS).size; omega)
 have hin : a < n := by omega
 have hjn : pv < n := by omega
 obtain ⟨z, gz⟩ : ∃ z, (w.setCell ⟨g, a, none⟩ (.int .u8 xp)).cell? ⟨g, pv, none⟩ = some (.int .u8 z) := by
  by_cases e : pv = a
  ·rw [e]; exact ⟨xp, World.cell?_setCell_same _ _ _ cxa⟩
  ·exact ⟨xp, by rw [World.cell?_setCell_other _ _ _ _ (fun h => e (by simpa using (congrArg Addr.off h).symm))]; exact cxp⟩
 have gz2 : (w.setCell ⟨g, a, none⟩ (.int .u8 xp)).drew.cell? ⟨g, pv, none⟩ = some (.int .u8 z) := gz
 have HI : Hid (StK n w0 g (fun e => Sort.partEqLoop Sort.ltInt a (a + 1) (b - 1) e = R) (Sort.swp d (a) (pv)) (((w.setCell ⟨g, a, none⟩ (.int .u8 xp)).setCell ⟨g, pv, none⟩ (.int .u8 xa)).drew)) := yz ((yx HS).put hin hjn Hxa Hxp (fun h => h))
 generalize Sort.swp d a pv = d1 at *
 clear HS Hxa Hxp
 go_enter Try.func44, Try.ntmps44
 go_wp2_with fail
 go_region
 generalize (((w.setCell ⟨g, a, none⟩ (.int .u8 xp)).setCell ⟨g, pv, none⟩ (.int .u8 xa)).drew) = W1 at *
 clear cxa cxp fxa fxp gz gz2
 go_wp2_with fail
 go_loopw [9, 10] (fun u v wr => ∃ (i j : Nat) (dk : Array Int), u = .int .i64 i ∧ v = .int .i64 j ∧ a < i ∧ i ≤ j + 2 ∧ j < b ∧ Hid (StK n w0 g (fun e => Sort.partEqLoop Sort.ltInt a i j e = R) dk wr)) (fun u v _ => (intOf v + 2 - intOf u).toNat)
 case atStart => exact ⟨a + 1, b - 1, d1, by go_num, by go_num, by omega, by omega, by omega, HI⟩
 case round =>
  obtain ⟨i, j, dk, rfl, rfl, hi, hij, hj, HK⟩ := hrel
  clear HI
  have HE : Hid (Sort.partEqLoop Sort.ltInt a i j dk = R) := yz (yx HK).same
  have HA : Hid (At8 n w0 g dk wr) := yz ((yx HK).to (fun _ => trivial))
  clear HK
  obtain ⟨za, Hza⟩ : ∃ x, Hid (x = dk[a]!) := ⟨_, yz rfl⟩
  go_upto_block 2 with fail
  go_cut [9] (fun v wx => ∃ i2 : Nat, v = .int .i64 i2 ∧ i ≤ i2 ∧ i2 ≤ j + 2 ∧ Hid (i2 = Sort.scanUp (fun x => !Sort.ltInt dk[a]! x) dk j i) ∧ Hid (At8 n w0 g dk wx))
  case first =>
   go_wp2_with fail
   go_loopw [9] (fun v wt => ∃ i3 : Nat, v = .int .i64 i3 ∧ i ≤ i3 ∧ i3 ≤ j + 2 ∧ Hid (Sort.scanUp (fun x => !Sort.ltInt dk[a]! x) dk j i3 = Sort.scanUp (fun x => !Sort.ltInt dk[a]! x) dk j i) ∧ Hid (At8 n w0 g dk wt)) (fun v _ => j + 2 - (intOf v).toNat)
   case atStart => exact ⟨_, rfl, by omega, by omega, yz rfl, HA⟩
   case round =>
    obtain ⟨i3, rfl, hk1, hk2, HS3, HB⟩ := hrel
    clear HA
    by_cases hc : i3 ≤ j
    ·have hcz : (i3 : Int) ≤ (j : Int) := by omega
     obtain ⟨x, Hx⟩ : ∃ x, Hid (x = dk[i3]!) := ⟨_, yz rfl⟩
     have cx : wr.cell? ⟨g, i3, none⟩ = some (.int .u8 x) := by rw [yx Hx]; exact (yx HB).row.cells (i3) (by have := (yx HB).size; omega)
     have ca : wr.cell? ⟨g, a, none⟩ = some (.int .u8 za) := by rw [yx Hza]; exact (yx HB).row.cells a (by have := (yx HB).size; omega)
     have hxn : i3 < n := by omega
     have cL := yz (fun (W : World) => aA za x W)
     have rx := cell_regrown cx
     have ra := cell_regrown ca
     clear cx ca
     cases hL : Sort.ltInt za x
     ·rw [hL] at cL
      go_wp2_with fail
      refine wp_region_quiet_below (by kernel_rfl) (by kernel_rfl) ?_
      repeat (go_big_quiet_step (first | (with_reducible exact Calls.regrown_of (yx cL _))))
      refine wpQuiet_nil ?_
      intro _ hw'
      obtain ⟨⟨dq, osq⟩, hw''⟩ := hw'
      subst hw''
      have hx := below_regrown wr dq osq
      replace HB := yz ((yx HB).kept hx)
      clear hx rx ra
      generalize Sort.grow (redrawn wr dq) osq = W2 at *
      clear cL
      have hp : (!Sort.ltInt dk[a]! dk[i3]!) = true := by rw [← yx Hx, ← yx Hza, hL]; try rfl
      go_wp2_with fail
      go_roundw
      case rel => exact ⟨i3 + 1, by go_num, by omega, by omega, yz ((iZ (p := (fun x => !Sort.ltInt dk[a]! x)) hc hp).symm.trans (yx HS3)), HB⟩
      case measure => simp [intOf] <;> omega
     ·rw [hL] at cL
      go_wp2_with fail
      refine wp_region_quiet_below (by kernel_rfl) (by kernel_rfl) ?_
      repeat (go_big_quiet_step (first | (with_reducible exact Calls.regrown_of (yx cL _))))
      refine wpQuiet_nil ?_
      intro _ hw'
      obtain ⟨⟨dq, osq⟩, hw''⟩ := hw'
      subst hw''
      have hx := below_regrown wr dq osq
      replace HB := yz ((yx HB).kept hx)
      clear hx rx ra
      generalize Sort.grow (redrawn wr dq) osq = W2 at *
      clear cL
      have hp : (!Sort.ltInt dk[a]! dk[i3]!) = false := by rw [← yx Hx, ← yx Hza, hL]; try rfl
      go_wp2_with fail
      go_meet
      exact ⟨i3, rfl, by omega, by omega, yz ((cA (p := (fun x => !Sort.ltInt dk[a]! x)) (.inr hp)).symm.trans (yx HS3)), HB⟩
    ·have hcz : decide ((i3 : Int) ≤ (j : Int)) = false := decide_eq_false (by omega)
     go_wp2_with fail
     refine wp_region_quiet_below (by kernel_rfl) (by kernel_rfl) ?_
     repeat (go_big_quiet_step (fail))
     refine wpQuiet_nil ?_
     intro _ hw'
     obtain ⟨⟨dq, osq⟩, hw''⟩ := hw'
     subst hw''
     have hx := below_regrown wr dq osq
     replace HB := yz ((yx HB).kept hx)
     clear hx 
     generalize Sort.grow (redrawn wr dq) osq = W2 at *
     go_wp2_with fail
     go_meet
     exact ⟨i3, rfl, by omega, by omega, yz ((cA (p := (fun x => !Sort.ltInt dk[a]! x)) (.inl hc)).symm.trans (yx HS3)), HB⟩
  case rest =>
   obtain ⟨i2, rfl, hi1, hi2, HU, HA⟩ := hcut
   go_upto_block 4 with fail
   go_cut [10] (fun v wx => ∃ j2 : Nat, v = .int .i64 j2 ∧ i2 ≤ j2 + 2 ∧ j2 ≤ j ∧ Hid (j2 = Sort.scanDown (fun x => Sort.ltInt dk[a]! x) dk i2 j) ∧ Hid (At8 n w0 g dk wx))
   case first =>
    go_wp2_with fail
    go_loopw [10] (fun v wt => ∃ j3 : Nat, v = .int .i64 j3 ∧ i2 ≤ j3 + 2 ∧ j3 ≤ j ∧ Hid (Sort.scanDown (fun x => Sort.ltInt dk[a]! x) dk i2 j3 = Sort.scanDown (fun x => Sort.ltInt dk[a]! x) dk i2 j) ∧ Hid (At8 n w0 g dk wt)) (fun v _ => (intOf v).toNat)
    case atStart => exact ⟨_, rfl, by omega, by omega, yz rfl, HA⟩
    case round =>
     obtain ⟨j3, rfl, hk1, hk2, HS3, HB⟩ := hrel
     clear HA
     by_cases hc : i2 ≤ j3
     ·obtain ⟨j4, rfl⟩ : ∃ j4, j3 = j4 + 1 := ⟨j3 - 1, by omega⟩
      have hcz : (i2 : Int) ≤ (j4 : Int) + 1 := by omega
      obtain ⟨x, Hx⟩ : ∃ x, Hid (x = dk[j4 + 1]!) := ⟨_, yz rfl⟩
      have cx : wr.cell? ⟨g, j4 + 1, none⟩ = some (.int .u8 x) := by rw [yx Hx]; exact (yx HB).row.cells (j4 + 1) (by have := (yx HB).size; omega)
      have ca : wr.cell? ⟨g, a, none⟩ = some (.int .u8 za) := by rw [yx Hza]; exact (yx HB).row.cells a (by have := (yx HB).size; omega)
      have hxn : j4 + 1 < n := by omega
      have cL := yz (fun (W : World) => aA za x W)
      have rx := cell_regrown cx
      have ra := cell_regrown ca
      clear cx ca
      cases hL : Sort.ltInt za x
      ·rw [hL] at cL
       go_wp2_with fail
       refine wp_region_quiet_below (by kernel_rfl) (by kernel_rfl) ?_
       repeat (go_big_quiet_step (first | (with_reducible exact Calls.regrown_of (yx cL _))))
       refine wpQuiet_nil ?_
       intro _ hw'
       obtain ⟨⟨dq, osq⟩, hw''⟩ := hw'
       subst hw''
       have hx := below_regrown wr dq osq
       replace HB := yz ((yx HB).kept hx)
       clear hx rx ra
       generalize Sort.grow (redrawn wr dq) osq = W2 at *
       clear cL
       have hp : Sort.ltInt dk[a]! dk[j4 + 1]! = false := by rw [← yx Hx, ← yx Hza, hL]; try rfl
       go_wp2_with fail
       go_meet
       exact ⟨j4 + 1, by go_num, by omega, by omega, yz ((bG (p := (fun x => Sort.ltInt dk[a]! x)) (.inr hp)).symm.trans (yx HS3)), HB⟩
      ·rw [hL] at cL
       go_wp2_with fail
       refine wp_region_quiet_below (by kernel_rfl) (by kernel_rfl) ?_
       repeat (go_big_quiet_step (first | (with_reducible exact Calls.regrown_of (yx cL _))))
       refine wpQuiet_nil ?_
       intro _ hw'
       obtain ⟨⟨dq, osq⟩, hw''⟩ := hw'
       subst hw''
       have hx := below_regrown wr dq osq
       replace HB := yz ((yx HB).kept hx)
       clear hx rx ra
       generalize Sort.grow (redrawn wr dq) osq = W2 at *
       clear cL
       have hp : Sort.ltInt dk[a]! dk[j4 + 1]! = true := by rw [← yx Hx, ← yx Hza, hL]; try rfl
       go_wp2_with fail
       go_roundw
       case rel => exact ⟨j4, by go_num, by omega, by omega, yz ((fs (p := (fun x => Sort.ltInt dk[a]! x)) hc hp).symm.trans (yx HS3)), HB⟩
       case measure => simp [intOf] <;> omega
     ·have hcz : decide ((i2 : Int) ≤ (j3 : Int)) = false := decide_eq_false (by omega)
      go_wp2_with fail
      refine wp_region_quiet_below (by kernel_rfl) (by kernel_rfl) ?_
      repeat (go_big_quiet_step (fail))
      refine wpQuiet_nil ?_
      intro _ hw'
      obtain ⟨⟨dq, osq⟩, hw''⟩ := hw'
      subst hw''
      have hx := below_regrown wr dq osq
      replace HB := yz ((yx HB).kept hx)
      clear hx 
      generalize Sort.grow (redrawn wr dq) osq = W2 at *
      go_wp2_with fail
      go_meet
      exact ⟨j3, rfl, by omega, by omega, yz ((bG (p := (fun x => Sort.ltInt dk[a]! x)) (.inl hc)).symm.trans (yx HS3)), HB⟩
   case rest =>
    obtain ⟨j2, rfl, hj1, hj2, HD, HA⟩ := hcut
    by_cases hji : j2 < i2
    ·have hjz : (j2 : Int) < (i2 : Int) := by omega
     have hR := yx HE
     rw [gC (yx HU) (yx HD) hji] at hR
     subst hR
     have HK2 := yz (yx HA).row
     clear HE HA HU HD
     go_wp2_with fail
     go_ret
     exact ⟨rfl, yx HK2⟩
    ·have hjz : ¬ (j2 : Int) < (i2 : Int) := by omega
     have HE2 := yz ((ig (yx HU) (yx HD) hji).symm.trans (yx HE))
     clear HE HU HD
     obtain ⟨x, Hx⟩ : ∃ x, Hid (x = dk[i2]!) := ⟨_, yz rfl⟩
     obtain ⟨y, Hy⟩ : ∃ x, Hid (x = dk[j2]!) := ⟨_, yz rfl⟩
     have cx : wc.cell? ⟨g, i2, none⟩ = some (.int .u8 x) := by rw [yx Hx]; exact (yx HA).row.cells (i2) (by have := (yx HA).size; omega)
     have cy : wc.cell? ⟨g, j2, none⟩ = some (.int .u8 y) := by rw [yx Hy]; exact (yx HA).row.cells (j2) (by have := (yx HA).size; omega)
     have fx := (yx HA).row.free (i2) (by have := (yx HA).size; omega)
     have fy := (yx HA).row.free (j2) (by have := (yx HA).size; omega)
     have hin : i2 < n := by omega
     have hjn : j2 < n := by omega
     obtain ⟨z, gz⟩ : ∃ z, (wc.setCell ⟨g, i2, none⟩ (.int .u8 y)).cell? ⟨g, j2, none⟩ = some (.int .u8 z) := by
      by_cases e : j2 = i2
      ·rw [e]; exact ⟨y, World.cell?_setCell_same _ _ _ cx⟩
      ·exact ⟨y, by rw [World.cell?_setCell_other _ _ _ _ (fun h => e (by simpa using (congrArg Addr.off h).symm))]; exact cy⟩
     have gz2 : (wc.setCell ⟨g, i2, none⟩ (.int .u8 y)).drew.cell? ⟨g, j2, none⟩ = some (.int .u8 z) := gz
     have HI : Hid (StK n w0 g (fun e => Sort.partEqLoop Sort.ltInt a (i2 + 1) (j2 - 1) e = R) (Sort.swp dk (i2) (j2)) (((wc.setCell ⟨g, i2, none⟩ (.int .u8 y)).setCell ⟨g, j2, none⟩ (.int .u8 x)).drew)) := yz ((yx HA).put hin hjn Hx Hy (fun h => yx HE2))
     clear HA Hx Hy HE2
     go_wp2_with fail
     go_region
     go_wp2_with fail
     go_roundw
     have ej : (j2 : Int) - 1 = ((j2 - 1 : Nat) : Int) := by omega
     case rel => exact ⟨i2 + 1, j2 - 1, Sort.swp dk i2 j2, by go_num, by first | rfl | rw [ej], by omega, by omega, by omega, HI⟩
     case measure => simp [intOf] <;> omega
theorem ic (g cap n a b pv : Nat) (d : Array Int) (w0 w : World) (hn : d.size = n) (hS : aN w0 g d w) (hap : a ≤ pv) (hpb : pv < b) (hb : b ≤ n) (hsz : n ≤ 1048576) :
  Calls Try.prog 45 #[.slice (some ⟨g, 0, none⟩) n cap, .int .i64 a, .int .i64 b, .int .i64 pv] w fun e w' => e = .returned (.tuple #[.int .i64 (Sort.partition Sort.ltInt d a b pv).1, .bool (Sort.partition Sort.ltInt d a b pv).2.1]) ∧ aN w0 g (Sort.partition Sort.ltInt d a b pv).2.2 w' := by
 obtain ⟨R, HR⟩ : ∃ R, Hid (R = Sort.partition Sort.ltInt d a b pv) := ⟨_, yz rfl⟩
 have HS : Hid (StK n w0 g (fun e => bV (Sort.swp e a pv) a b = R) d w) := yz ⟨hn, ((yx HR).trans (jl d a b pv)).symm, hS⟩
 rw [← yx HR]
 clear hS hn HR
 obtain ⟨xa, Hxa⟩ : ∃ x, Hid (x = d[a]!) := ⟨_, yz rfl⟩
 obtain ⟨xp, Hxp⟩ : ∃ x, Hid (x = d[pv]!) := ⟨_, yz rfl⟩
 have cxa : w.cell? ⟨g, a, none⟩ = some (.int .u8 xa) := by rw [yx Hxa]; exact (yx HS).row.cells (a) (by have := (yx HS).size; omega)
 have cxp : w.cell? ⟨g, pv, none⟩ = some (.int .u8 xp) := by rw [yx Hxp]; exact (yx HS).row.cells (pv) (by have := (yx HS).size; omega)
 have fxa := (yx HS).row.free (a) (by have := (yx HS).size; omega)
 have fxp := (yx HS).row.free (pv) (by have := (yx HS).size; omega)
 have hin : a < n := by omega
 have hjn : pv < n := by omega
 obtain ⟨z, gz⟩ : ∃ z, (w.setCell ⟨g, a, none⟩ (.int .u8 xp)).cell? ⟨g, pv, none⟩ = some (.int .u8 z) := by
  by_cases e : pv = a
  ·rw [e]; exact ⟨xp, World.cell?_setCell_same _ _ _ cxa⟩
  ·exact ⟨xp, by rw [World.cell?_setCell_other _ _ _ _ (fun h => e (by simpa using (congrArg Addr.off h).symm))]; exact cxp⟩
 have gz2 : (w.setCell ⟨g, a, none⟩ (.int .u8 xp)).drew.cell? ⟨g, pv, none⟩ = some (.int .u8 z) := gz
 have HI : Hid (StK n w0 g (fun e => bV e a b = R) (Sort.swp d (a) (pv)) (((w.setCell ⟨g, a, none⟩ (.int .u8 xp)).setCell ⟨g, pv, none⟩ (.int .u8 xa)).drew)) := yz ((yx HS).put hin hjn Hxa Hxp (fun h => h))
 generalize Sort.swp d a pv = dk at *
 clear HS Hxa Hxp
 have HE0 : Hid (bV dk a b = R) := yz (yx HI).same
 obtain ⟨W1, hW1⟩ : ∃ W, W = (((w.setCell ⟨g, a, none⟩ (.int .u8 xp)).setCell ⟨g, pv, none⟩ (.int .u8 xa)).drew) := ⟨_, rfl⟩
 rw [← hW1] at HI
 have HA : Hid (At8 n w0 g dk W1) := yz ((yx HI).to (fun _ => trivial))
 clear HI
 go_enter Try.func45, Try.ntmps45
 go_wp2_with fail
 go_region
 rw [← hW1]
 clear hW1 cxa cxp fxa fxp gz gz2
 obtain ⟨i, hi⟩ : ∃ i, i = a + 1 := ⟨_, rfl⟩
 obtain ⟨j, hj⟩ : ∃ j, j = b - 1 := ⟨_, rfl⟩
 have ei : (a : Int) + 1 = (i : Int) := by omega
 have ej : (b : Int) - 1 = (j : Int) := by omega
 obtain ⟨za, Hza⟩ : ∃ x, Hid (x = dk[a]!) := ⟨_, yz rfl⟩
 have hi9 : (i : Int) ≤ 1048577 := by omega
 have hj9 : (j : Int) ≤ 1048577 := by omega
 have hai : a < i := by omega
 have hij : i ≤ j + 2 := by omega
 have hjb : j < b := by omega
 have HIE := yz hi
 have HJE := yz hj
 clear hi hj
 go_upto_block 0 with fail
 go_cut [10] (fun v wx => ∃ i2 : Nat, v = .int .i64 i2 ∧ i ≤ i2 ∧ i2 ≤ j + 2 ∧ Hid (i2 = Sort.scanUp (fun x => Sort.ltInt x dk[a]!) dk j i) ∧ Hid (At8 n w0 g dk wx))
 case first =>
  go_wp2_with fail
  go_loopw [10] (fun v wt => ∃ i3 : Nat, v = .int .i64 i3 ∧ i ≤ i3 ∧ i3 ≤ j + 2 ∧ Hid (Sort.scanUp (fun x => Sort.ltInt x dk[a]!) dk j i3 = Sort.scanUp (fun x => Sort.ltInt x dk[a]!) dk j i) ∧ Hid (At8 n w0 g dk wt)) (fun v _ => j + 2 - (intOf v).toNat)
  case atStart => exact ⟨_, rfl, by omega, by omega, yz rfl, HA⟩
  case round =>
   obtain ⟨i3, rfl, hk1, hk2, HS3, HB⟩ := hrel
   clear HA
   by_cases hc : i3 ≤ j
   ·have hcz : (i3 : Int) ≤ (j : Int) := by omega
    obtain ⟨x, Hx⟩ : ∃ x, Hid (x = dk[i3]!) := ⟨_, yz rfl⟩
    have cx : wr.cell? ⟨g, i3, none⟩ = some (.int .u8 x) := by rw [yx Hx]; exact (yx HB).row.cells (i3) (by have := (yx HB).size; omega)
    have ca : wr.cell? ⟨g, a, none⟩ = some (.int .u8 za) := by rw [yx Hza]; exact (yx HB).row.cells a (by have := (yx HB).size; omega)
    have hxn : i3 < n := by omega
    have cL := yz (fun (W : World) => aA x za W)
    have rx := cell_regrown cx
    have ra := cell_regrown ca
    clear cx ca
    cases hL : Sort.ltInt x za
    ·rw [hL] at cL
     go_wp2_with fail
     refine wp_region_quiet_below (by kernel_rfl) (by kernel_rfl) ?_
     repeat (go_big_quiet_step (first | (with_reducible exact Calls.regrown_of (yx cL _))))
     refine wpQuiet_nil ?_
     intro _ hw'
     obtain ⟨⟨dq, osq⟩, hw''⟩ := hw'
     subst hw''
     have hx := below_regrown wr dq osq
     replace HB := yz ((yx HB).kept hx)
     clear hx rx ra
     generalize Sort.grow (redrawn wr dq) osq = W2 at *
     clear cL
     have hp : Sort.ltInt dk[i3]! dk[a]! = false := by rw [← yx Hx, ← yx Hza, hL]; try rfl
     go_wp2_with fail
     go_meet
     exact ⟨i3, rfl, by omega, by omega, yz ((cA (p := (fun x => Sort.ltInt x dk[a]!)) (.inr hp)).symm.trans (yx HS3)), HB⟩
    ·rw [hL] at cL
     go_wp2_with fail
     refine wp_region_quiet_below (by kernel_rfl) (by kernel_rfl) ?_
     repeat (go_big_quiet_step (first | (with_reducible exact Calls.regrown_of (yx cL _))))
     refine wpQuiet_nil ?_
     intro _ hw'
     obtain ⟨⟨dq, osq⟩, hw''⟩ := hw'
     subst hw''
     have hx := below_regrown wr dq osq
     replace HB := yz ((yx HB).kept hx)
     clear hx rx ra
     generalize Sort.grow (redrawn wr dq) osq = W2 at *
     clear cL
     have hp : Sort.ltInt dk[i3]! dk[a]! = true := by rw [← yx Hx, ← yx Hza, hL]; try rfl
     go_wp2_with fail
     go_roundw
     case rel => exact ⟨i3 + 1, by go_num, by omega, by omega, yz ((iZ (p := (fun x => Sort.ltInt x dk[a]!)) hc hp).symm.trans (yx HS3)), HB⟩
     case measure => simp [intOf] <;> omega
   ·have hcz : decide ((i3 : Int) ≤ (j : Int)) = false := decide_eq_false (by omega)
    go_wp2_with fail
    refine wp_region_quiet_below (by kernel_rfl) (by kernel_rfl) ?_
    repeat (go_big_quiet_step (fail))
    refine wpQuiet_nil ?_
    intro _ hw'
    obtain ⟨⟨dq, osq⟩, hw''⟩ := hw'
    subst hw''
    have hx := below_regrown wr dq osq
    replace HB := yz ((yx HB).kept hx)
    clear hx 
    generalize Sort.grow (redrawn wr dq) osq = W2 at *
    go_wp2_with fail
    go_meet
    exact ⟨i3, rfl, by omega, by omega, yz ((cA (p := (fun x => Sort.ltInt x dk[a]!)) (.inl hc)).symm.trans (yx HS3)), HB⟩
 case rest =>
  obtain ⟨i2, rfl, hi1, hi2, HU, HA⟩ := hcut
  go_upto_block 2 with fail
  go_cut [11] (fun v wx => ∃ j2 : Nat, v = .int .i64 j2 ∧ i2 ≤ j2 + 2 ∧ j2 ≤ j ∧ Hid (j2 = Sort.scanDown (fun x => !Sort.ltInt x dk[a]!) dk i2 j) ∧ Hid (At8 n w0 g dk wx))
  case first =>
   go_wp2_with fail
   go_loopw [11] (fun v wt => ∃ j3 : Nat, v = .int .i64 j3 ∧ i2 ≤ j3 + 2 ∧ j3 ≤ j ∧ Hid (Sort.scanDown (fun x => !Sort.ltInt x dk[a]!) dk i2 j3 = Sort.scanDown (fun x => !Sort.ltInt x dk[a]!) dk i2 j) ∧ Hid (At8 n w0 g dk wt)) (fun v _ => (intOf v).toNat)
   case atStart => exact ⟨_, rfl, by omega, by omega, yz rfl, HA⟩
   case round =>
    obtain ⟨j3, rfl, hk1, hk2, HS3, HB⟩ := hrel
    clear HA
    by_cases hc : i2 ≤ j3
    ·obtain ⟨j4, rfl⟩ : ∃ j4, j3 = j4 + 1 := ⟨j3 - 1, by omega⟩
     have hcz : (i2 : Int) ≤ (j4 : Int) + 1 := by omega
     obtain ⟨x, Hx⟩ : ∃ x, Hid (x = dk[j4 + 1]!) := ⟨_, yz rfl⟩
     have cx : wr.cell? ⟨g, j4 + 1, none⟩ = some (.int .u8 x) := by rw [yx Hx]; exact (yx HB).row.cells (j4 + 1) (by have := (yx HB).size; omega)
     have ca : wr.cell? ⟨g, a, none⟩ = some (.int .u8 za) := by rw [yx Hza]; exact (yx HB).row.cells a (by have := (yx HB).size; omega)
     have hxn : j4 + 1 < n := by omega
     have cL := yz (fun (W : World) => aA x za W)
     have rx := cell_regrown cx
     have ra := cell_regrown ca
     clear cx ca
     cases hL : Sort.ltInt x za
     ·rw [hL] at cL
      go_wp2_with fail
      refine wp_region_quiet_below (by kernel_rfl) (by kernel_rfl) ?_
      repeat (go_big_quiet_step (first | (with_reducible exact Calls.regrown_of (yx cL _))))
      refine wpQuiet_nil ?_
      intro _ hw'
      obtain ⟨⟨dq, osq⟩, hw''⟩ := hw'
      subst hw''
      have hx := below_regrown wr dq osq
      replace HB := yz ((yx HB).kept hx)
      clear hx rx ra
      generalize Sort.grow (redrawn wr dq) osq = W2 at *
      clear cL
      have hp : (!Sort.ltInt dk[j4 + 1]! dk[a]!) = true := by rw [← yx Hx, ← yx Hza, hL]; try rfl
      go_wp2_with fail
      go_roundw
      case rel => exact ⟨j4, by go_num, by omega, by omega, yz ((fs (p := (fun x => !Sort.ltInt x dk[a]!)) hc hp).symm.trans (yx HS3)), HB⟩
      case measure => simp [intOf] <;> omega
     ·rw [hL] at cL
      go_wp2_with fail
      refine wp_region_quiet_below (by kernel_rfl) (by kernel_rfl) ?_
      repeat (go_big_quiet_step (first | (with_reducible exact Calls.regrown_of (yx cL _))))
      refine wpQuiet_nil ?_
      intro _ hw'
      obtain ⟨⟨dq, osq⟩, hw''⟩ := hw'
      subst hw''
      have hx := below_regrown wr dq osq
      replace HB := yz ((yx HB).kept hx)
      clear hx rx ra
      generalize Sort.grow (redrawn wr dq) osq = W2 at *
      clear cL
      have hp : (!Sort.ltInt dk[j4 + 1]! dk[a]!) = false := by rw [← yx Hx, ← yx Hza, hL]; try rfl
      go_wp2_with fail
      go_meet
      exact ⟨j4 + 1, by go_num, by omega, by omega, yz ((bG (p := (fun x => !Sort.ltInt x dk[a]!)) (.inr hp)).symm.trans (yx HS3)), HB⟩
    ·have hcz : decide ((i2 : Int) ≤ (j3 : Int)) = false := decide_eq_false (by omega)
     go_wp2_with fail
     refine wp_region_quiet_below (by kernel_rfl) (by kernel_rfl) ?_
     repeat (go_big_quiet_step (fail))
     refine wpQuiet_nil ?_
     intro _ hw'
     obtain ⟨⟨dq, osq⟩, hw''⟩ := hw'
     subst hw''
     have hx := below_regrown wr dq osq
     replace HB := yz ((yx HB).kept hx)
     clear hx 
     generalize Sort.grow (redrawn wr dq) osq = W2 at *
     go_wp2_with fail
     go_meet
     exact ⟨j3, rfl, by omega, by omega, yz ((bG (p := (fun x => !Sort.ltInt x dk[a]!)) (.inl hc)).symm.trans (yx HS3)), HB⟩
  case rest =>
   obtain ⟨j2, rfl, hj1, hj2, HD, HA⟩ := hcut
   by_cases hji : j2 < i2
   ·have hjz : (j2 : Int) < (i2 : Int) := by omega
    have hR := yx HE0
    rw [gB (yx HIE) (yx HJE) (yx HU) (yx HD) hji] at hR
    subst hR
    obtain ⟨x, Hx⟩ : ∃ x, Hid (x = dk[j2]!) := ⟨_, yz rfl⟩
    obtain ⟨y, Hy⟩ : ∃ x, Hid (x = dk[a]!) := ⟨_, yz rfl⟩
    have cx : wc.cell? ⟨g, j2, none⟩ = some (.int .u8 x) := by rw [yx Hx]; exact (yx HA).row.cells (j2) (by have := (yx HA).size; omega)
    have cy : wc.cell? ⟨g, a, none⟩ = some (.int .u8 y) := by rw [yx Hy]; exact (yx HA).row.cells (a) (by have := (yx HA).size; omega)
    have fx := (yx HA).row.free (j2) (by have := (yx HA).size; omega)
    have fy := (yx HA).row.free (a) (by have := (yx HA).size; omega)
    have hin : j2 < n := by omega
    have hjn : a < n := by omega
    obtain ⟨z, gz⟩ : ∃ z, (wc.setCell ⟨g, j2, none⟩ (.int .u8 y)).cell? ⟨g, a, none⟩ = some (.int .u8 z) := by
     by_cases e : a = j2
     ·rw [e]; exact ⟨y, World.cell?_setCell_same _ _ _ cx⟩
     ·exact ⟨y, by rw [World.cell?_setCell_other _ _ _ _ (fun h => e (by simpa using (congrArg Addr.off h).symm))]; exact cy⟩
    have gz2 : (wc.setCell ⟨g, j2, none⟩ (.int .u8 y)).drew.cell? ⟨g, a, none⟩ = some (.int .u8 z) := gz
    have HI : Hid (StK n w0 g (fun _ => True) (Sort.swp dk (j2) (a)) (((wc.setCell ⟨g, j2, none⟩ (.int .u8 y)).setCell ⟨g, a, none⟩ (.int .u8 x)).drew)) := yz ((yx HA).put hin hjn Hx Hy (fun h => trivial))
    have HK2 := yz (yx HI).row
    clear HI HE0 HA HU HD HIE HJE Hx Hy
    go_wp2_with fail
    go_region
    go_wp2_with fail
    go_ret2
    exact ⟨rfl, yx HK2⟩
   ·have hjz : ¬ (j2 : Int) < (i2 : Int) := by omega
    have HE2 := yz ((ie (yx HIE) (yx HJE) (yx HU) (yx HD) hji).symm.trans (yx HE0))
    clear HE0 HU HD HIE HJE
    obtain ⟨x, Hx⟩ : ∃ x, Hid (x = dk[i2]!) := ⟨_, yz rfl⟩
    obtain ⟨y, Hy⟩ : ∃ x, Hid (x = dk[j2]!) := ⟨_, yz rfl⟩
    have cx : wc.cell? ⟨g, i2, none⟩ = some (.int .u8 x) := by rw [yx Hx]; exact (yx HA).row.cells (i2) (by have := (yx HA).size; omega)
    have cy : wc.cell? ⟨g, j2, none⟩ = some (.int .u8 y) := by rw [yx Hy]; exact (yx HA).row.cells (j2) (by have := (yx HA).size; omega)
    have fx := (yx HA).row.free (i2) (by have := (yx HA).size; omega)
    have fy := (yx HA).row.free (j2) (by have := (yx HA).size; omega)
    have hin : i2 < n := by omega
    have hjn : j2 < n := by omega
    obtain ⟨z, gz⟩ : ∃ z, (wc.setCell ⟨g, i2, none⟩ (.int .u8 y)).cell? ⟨g, j2, none⟩ = some (.int .u8 z) := by
     by_cases e : j2 = i2
     ·rw [e]; exact ⟨y, World.cell?_setCell_same _ _ _ cx⟩
     ·exact ⟨y, by rw [World.cell?_setCell_other _ _ _ _ (fun h => e (by simpa using (congrArg Addr.off h).symm))]; exact cy⟩
    have gz2 : (wc.setCell ⟨g, i2, none⟩ (.int .u8 y)).drew.cell? ⟨g, j2, none⟩ = some (.int .u8 z) := gz
    have HI : Hid (StK n w0 g (fun e => bE a (Sort.partLoop Sort.ltInt a (i2 + 1) (j2 - 1) e) = R) (Sort.swp dk (i2) (j2)) (((wc.setCell ⟨g, i2, none⟩ (.int .u8 y)).setCell ⟨g, j2, none⟩ (.int .u8 x)).drew)) := yz ((yx HA).put hin hjn Hx Hy (fun h => yx HE2))
    clear HA Hx Hy HE2 Hza
    obtain ⟨W2, hW2⟩ : ∃ W, W = (((wc.setCell ⟨g, i2, none⟩ (.int .u8 y)).setCell ⟨g, j2, none⟩ (.int .u8 x)).drew) := ⟨_, rfl⟩
    rw [← hW2] at HI
    go_wp2_with fail
    go_region
    rw [← hW2]
    clear hW2 gz gz2 cx cy fx fy
    generalize Sort.swp dk i2 j2 = d2 at *
    have ej2 : (j2 : Int) - 1 = ((j2 - 1 : Nat) : Int) := by omega
    go_wp2_with fail
    go_loopw [10, 11] (fun u v wr => ∃ (i j : Nat) (dk : Array Int), u = .int .i64 i ∧ v = .int .i64 j ∧ a < i ∧ i ≤ j + 2 ∧ j < b ∧ Hid (StK n w0 g (fun e => bE a (Sort.partLoop Sort.ltInt a i j e) = R) dk wr)) (fun u v _ => (intOf v + 2 - intOf u).toNat)
    case atStart => exact ⟨i2 + 1, j2 - 1, d2, by go_num, by first | rfl | rw [ej2], by omega, by omega, by omega, HI⟩
    case round =>
     obtain ⟨i, j, dk, rfl, rfl, hi, hij, hj, HK⟩ := hrel
     have HE : Hid (bE a (Sort.partLoop Sort.ltInt a i j dk) = R) := yz (yx HK).same
     have HA : Hid (At8 n w0 g dk wr) := yz ((yx HK).to (fun _ => trivial))
     clear HK
     obtain ⟨za, Hza⟩ : ∃ x, Hid (x = dk[a]!) := ⟨_, yz rfl⟩
     go_upto_block 6 with fail
     go_cut [10] (fun v wx => ∃ i2 : Nat, v = .int .i64 i2 ∧ i ≤ i2 ∧ i2 ≤ j + 2 ∧ Hid (i2 = Sort.scanUp (fun x => Sort.ltInt x dk[a]!) dk j i) ∧ Hid (At8 n w0 g dk wx))
     case first =>
      go_wp2_with fail
      go_loopw [10] (fun v wt => ∃ i3 : Nat, v = .int .i64 i3 ∧ i ≤ i3 ∧ i3 ≤ j + 2 ∧ Hid (Sort.scanUp (fun x => Sort.ltInt x dk[a]!) dk j i3 = Sort.scanUp (fun x => Sort.ltInt x dk[a]!) dk j i) ∧ Hid (At8 n w0 g dk wt)) (fun v _ => j + 2 - (intOf v).toNat)
      case atStart => exact ⟨_, rfl, by omega, by omega, yz rfl, HA⟩
      case round =>
       obtain ⟨i3, rfl, hk1, hk2, HS3, HB⟩ := hrel
       clear HA
       by_cases hc : i3 ≤ j
       ·have hcz : (i3 : Int) ≤ (j : Int) := by omega
        obtain ⟨x, Hx⟩ : ∃ x, Hid (x = dk[i3]!) := ⟨_, yz rfl⟩
        have cx : wr.cell? ⟨g, i3, none⟩ = some (.int .u8 x) := by rw [yx Hx]; exact (yx HB).row.cells (i3) (by have := (yx HB).size; omega)
        have ca : wr.cell? ⟨g, a, none⟩ = some (.int .u8 za) := by rw [yx Hza]; exact (yx HB).row.cells a (by have := (yx HB).size; omega)
        have hxn : i3 < n := by omega
        have cL := yz (fun (W : World) => aA x za W)
        have rx := cell_regrown cx
        have ra := cell_regrown ca
        clear cx ca
        cases hL : Sort.ltInt x za
        ·rw [hL] at cL
         go_wp2_with fail
         refine wp_region_quiet_below (by kernel_rfl) (by kernel_rfl) ?_
         repeat (go_big_quiet_step (first | (with_reducible exact Calls.regrown_of (yx cL _))))
         refine wpQuiet_nil ?_
         intro _ hw'
         obtain ⟨⟨dq, osq⟩, hw''⟩ := hw'
         subst hw''
         have hx := below_regrown wr dq osq
         replace HB := yz ((yx HB).kept hx)
         clear hx rx ra
         generalize Sort.grow (redrawn wr dq) osq = W2 at *
         clear cL
         have hp : Sort.ltInt dk[i3]! dk[a]! = false := by rw [← yx Hx, ← yx Hza, hL]; try rfl
         go_wp2_with fail
         go_meet
         exact ⟨i3, rfl, by omega, by omega, yz ((cA (p := (fun x => Sort.ltInt x dk[a]!)) (.inr hp)).symm.trans (yx HS3)), HB⟩
        ·rw [hL] at cL
         go_wp2_with fail
         refine wp_region_quiet_below (by kernel_rfl) (by kernel_rfl) ?_
         repeat (go_big_quiet_step (first | (with_reducible exact Calls.regrown_of (yx cL _))))
         refine wpQuiet_nil ?_
         intro _ hw'
         obtain ⟨⟨dq, osq⟩, hw''⟩ := hw'
         subst hw''
         have hx := below_regrown wr dq osq
         replace HB := yz ((yx HB).kept hx)
         clear hx rx ra
         generalize Sort.grow (redrawn wr dq) osq = W2 at *
         clear cL
         have hp : Sort.ltInt dk[i3]! dk[a]! = true := by rw [← yx Hx, ← yx Hza, hL]; try rfl
         go_wp2_with fail
         go_roundw
         case rel => exact ⟨i3 + 1, by go_num, by omega, by omega, yz ((iZ (p := (fun x => Sort.ltInt x dk[a]!)) hc hp).symm.trans (yx HS3)), HB⟩
         case measure => simp [intOf] <;> omega
       ·have hcz : decide ((i3 : Int) ≤ (j : Int)) = false := decide_eq_false (by omega)
        go_wp2_with fail
        refine wp_region_quiet_below (by kernel_rfl) (by kernel_rfl) ?_
        repeat (go_big_quiet_step (fail))
        refine wpQuiet_nil ?_
        intro _ hw'
        obtain ⟨⟨dq, osq⟩, hw''⟩ := hw'
        subst hw''
        have hx := below_regrown wr dq osq
        replace HB := yz ((yx HB).kept hx)
        clear hx 
        generalize Sort.grow (redrawn wr dq) osq = W2 at *
        go_wp2_with fail
        go_meet
        exact ⟨i3, rfl, by omega, by omega, yz ((cA (p := (fun x => Sort.ltInt x dk[a]!)) (.inl hc)).symm.trans (yx HS3)), HB⟩
     case rest =>
      obtain ⟨i2, rfl, hi1, hi2, HU, HA⟩ := hcut
      go_upto_block 8 with fail
      go_cut [11] (fun v wx => ∃ j2 : Nat, v = .int .i64 j2 ∧ i2 ≤ j2 + 2 ∧ j2 ≤ j ∧ Hid (j2 = Sort.scanDown (fun x => !Sort.ltInt x dk[a]!) dk i2 j) ∧ Hid (At8 n w0 g dk wx))
      case first =>
       go_wp2_with fail
       go_loopw [11] (fun v wt => ∃ j3 : Nat, v = .int .i64 j3 ∧ i2 ≤ j3 + 2 ∧ j3 ≤ j ∧ Hid (Sort.scanDown (fun x => !Sort.ltInt x dk[a]!) dk i2 j3 = Sort.scanDown (fun x => !Sort.ltInt x dk[a]!) dk i2 j) ∧ Hid (At8 n w0 g dk wt)) (fun v _ => (intOf v).toNat)
       case atStart => exact ⟨_, rfl, by omega, by omega, yz rfl, HA⟩
       case round =>
        obtain ⟨j3, rfl, hk1, hk2, HS3, HB⟩ := hrel
        clear HA
        by_cases hc : i2 ≤ j3
        ·obtain ⟨j4, rfl⟩ : ∃ j4, j3 = j4 + 1 := ⟨j3 - 1, by omega⟩
         have hcz : (i2 : Int) ≤ (j4 : Int) + 1 := by omega
         obtain ⟨x, Hx⟩ : ∃ x, Hid (x = dk[j4 + 1]!) := ⟨_, yz rfl⟩
         have cx : wr.cell? ⟨g, j4 + 1, none⟩ = some (.int .u8 x) := by rw [yx Hx]; exact (yx HB).row.cells (j4 + 1) (by have := (yx HB).size; omega)
         have ca : wr.cell? ⟨g, a, none⟩ = some (.int .u8 za) := by rw [yx Hza]; exact (yx HB).row.cells a (by have := (yx HB).size; omega)
         have hxn : j4 + 1 < n := by omega
         have cL := yz (fun (W : World) => aA x za W)
         have rx := cell_regrown cx
         have ra := cell_regrown ca
         clear cx ca
         cases hL : Sort.ltInt x za
         ·rw [hL] at cL
          go_wp2_with fail
          refine wp_region_quiet_below (by kernel_rfl) (by kernel_rfl) ?_
          repeat (go_big_quiet_step (first | (with_reducible exact Calls.regrown_of (yx cL _))))
          refine wpQuiet_nil ?_
          intro _ hw'
          obtain ⟨⟨dq, osq⟩, hw''⟩ := hw'
          subst hw''
          have hx := below_regrown wr dq osq
          replace HB := yz ((yx HB).kept hx)
          clear hx rx ra
          generalize Sort.grow (redrawn wr dq) osq = W2 at *
          clear cL
          have hp : (!Sort.ltInt dk[j4 + 1]! dk[a]!) = true := by rw [← yx Hx, ← yx Hza, hL]; try rfl
          go_wp2_with fail
          go_roundw
          case rel => exact ⟨j4, by go_num, by omega, by omega, yz ((fs (p := (fun x => !Sort.ltInt x dk[a]!)) hc hp).symm.trans (yx HS3)), HB⟩
          case measure => simp [intOf] <;> omega
         ·rw [hL] at cL
          go_wp2_with fail
          refine wp_region_quiet_below (by kernel_rfl) (by kernel_rfl) ?_
          repeat (go_big_quiet_step (first | (with_reducible exact Calls.regrown_of (yx cL _))))
          refine wpQuiet_nil ?_
          intro _ hw'
          obtain ⟨⟨dq, osq⟩, hw''⟩ := hw'
          subst hw''
          have hx := below_regrown wr dq osq
          replace HB := yz ((yx HB).kept hx)
          clear hx rx ra
          generalize Sort.grow (redrawn wr dq) osq = W2 at *
          clear cL
          have hp : (!Sort.ltInt dk[j4 + 1]! dk[a]!) = false := by rw [← yx Hx, ← yx Hza, hL]; try rfl
          go_wp2_with fail
          go_meet
          exact ⟨j4 + 1, by go_num, by omega, by omega, yz ((bG (p := (fun x => !Sort.ltInt x dk[a]!)) (.inr hp)).symm.trans (yx HS3)), HB⟩
        ·have hcz : decide ((i2 : Int) ≤ (j3 : Int)) = false := decide_eq_false (by omega)
         go_wp2_with fail
         refine wp_region_quiet_below (by kernel_rfl) (by kernel_rfl) ?_
         repeat (go_big_quiet_step (fail))
         refine wpQuiet_nil ?_
         intro _ hw'
         obtain ⟨⟨dq, osq⟩, hw''⟩ := hw'
         subst hw''
         have hx := below_regrown wr dq osq
         replace HB := yz ((yx HB).kept hx)
         clear hx 
         generalize Sort.grow (redrawn wr dq) osq = W2 at *
         go_wp2_with fail
         go_meet
         exact ⟨j3, rfl, by omega, by omega, yz ((bG (p := (fun x => !Sort.ltInt x dk[a]!)) (.inl hc)).symm.trans (yx HS3)), HB⟩
      case rest =>
       obtain ⟨j2, rfl, hj1, hj2, HD, HA⟩ := hcut
       by_cases hji : j2 < i2
       ·have hjz : (j2 : Int) < (i2 : Int) := by omega
        have hR := yx HE
        rw [iN (yx HU) (yx HD) hji] at hR
        unfold bE at hR
        dsimp only at hR
        subst hR
        have hja : j2 < n := by omega
        obtain ⟨x, Hx⟩ : ∃ x, Hid (x = dk[j2]!) := ⟨_, yz rfl⟩
        obtain ⟨y, Hy⟩ : ∃ x, Hid (x = dk[a]!) := ⟨_, yz rfl⟩
        have cx : wc.cell? ⟨g, j2, none⟩ = some (.int .u8 x) := by rw [yx Hx]; exact (yx HA).row.cells (j2) (by have := (yx HA).size; omega)
        have cy : wc.cell? ⟨g, a, none⟩ = some (.int .u8 y) := by rw [yx Hy]; exact (yx HA).row.cells (a) (by have := (yx HA).size; omega)
        have fx := (yx HA).row.free (j2) (by have := (yx HA).size; omega)
        have fy := (yx HA).row.free (a) (by have := (yx HA).size; omega)
        have hin : j2 < n := by omega
        have hjn : a < n := by omega
        obtain ⟨z, gz⟩ : ∃ z, (wc.setCell ⟨g, j2, none⟩ (.int .u8 y)).cell? ⟨g, a, none⟩ = some (.int .u8 z) := by
         by_cases e : a = j2
         ·rw [e]; exact ⟨y, World.cell?_setCell_same _ _ _ cx⟩
         ·exact ⟨y, by rw [World.cell?_setCell_other _ _ _ _ (fun h => e (by simpa using (congrArg Addr.off h).symm))]; exact cy⟩
        have gz2 : (wc.setCell ⟨g, j2, none⟩ (.int .u8 y)).drew.cell? ⟨g, a, none⟩ = some (.int .u8 z) := gz
        have HI : Hid (StK n w0 g (fun _ => True) (Sort.swp dk (j2) (a)) (((wc.setCell ⟨g, j2, none⟩ (.int .u8 y)).setCell ⟨g, a, none⟩ (.int .u8 x)).drew)) := yz ((yx HA).put hin hjn Hx Hy (fun h => trivial))
        have HK2 := yz (yx HI).row
        clear HI HE HA HU HD Hx Hy
        go_wp2_with fail
        go_region
        go_wp2_with fail
        go_ret2
        exact ⟨rfl, yx HK2⟩
       ·have hjz : ¬ (j2 : Int) < (i2 : Int) := by omega
        have HE2 := yz ((congrArg (bE a) (jm (yx HU) (yx HD) hji)).symm.trans (yx HE))
        clear HE HU HD
        obtain ⟨x, Hx⟩ : ∃ x, Hid (x = dk[i2]!) := ⟨_, yz rfl⟩
        obtain ⟨y, Hy⟩ : ∃ x, Hid (x = dk[j2]!) := ⟨_, yz rfl⟩
        have cx : wc.cell? ⟨g, i2, none⟩ = some (.int .u8 x) := by rw [yx Hx]; exact (yx HA).row.cells (i2) (by have := (yx HA).size; omega)
        have cy : wc.cell? ⟨g, j2, none⟩ = some (.int .u8 y) := by rw [yx Hy]; exact (yx HA).row.cells (j2) (by have := (yx HA).size; omega)
        have fx := (yx HA).row.free (i2) (by have := (yx HA).size; omega)
        have fy := (yx HA).row.free (j2) (by have := (yx HA).size; omega)
        have hin : i2 < n := by omega
        have hjn : j2 < n := by omega
        obtain ⟨z, gz⟩ : ∃ z, (wc.setCell ⟨g, i2, none⟩ (.int .u8 y)).cell? ⟨g, j2, none⟩ = some (.int .u8 z) := by
         by_cases e : j2 = i2
         ·rw [e]; exact ⟨y, World.cell?_setCell_same _ _ _ cx⟩
         ·exact ⟨y, by rw [World.cell?_setCell_other _ _ _ _ (fun h => e (by simpa using (congrArg Addr.off h).symm))]; exact cy⟩
        have gz2 : (wc.setCell ⟨g, i2, none⟩ (.int .u8 y)).drew.cell? ⟨g, j2, none⟩ = some (.int .u8 z) := gz
        have HI : Hid (StK n w0 g (fun e => bE a (Sort.partLoop Sort.ltInt a (i2 + 1) (j2 - 1) e) = R) (Sort.swp dk (i2) (j2)) (((wc.setCell ⟨g, i2, none⟩ (.int .u8 y)).setCell ⟨g, j2, none⟩ (.int .u8 x)).drew)) := yz ((yx HA).put hin hjn Hx Hy (fun h => yx HE2))
        clear HA Hx Hy HE2
        go_wp2_with fail
        go_region
        go_wp2_with fail
        have ej : (j2 : Int) - 1 = ((j2 - 1 : Nat) : Int) := by omega
        go_roundw
        case rel => exact ⟨i2 + 1, j2 - 1, Sort.swp dk i2 j2, by go_num, by first | rfl | rw [ej], by omega, by omega, by omega, HI⟩
        case measure => simp [intOf] <;> omega
end
end Go.Proofs.Ytackifnnhjbgbaa
