/- Several texts in one: StC. -/
import Derived.Test.YtackifnnhjbgbaaQFnFrameOwn12
namespace Go.Proofs.Ytackifnnhjbgbaa
set_option linter.unusedVariables false
set_option linter.unusedSimpArgs false
set_option maxRecDepth 100000
set_option maxHeartbeats 8000000
section
open Go.RowKit
theorem iX {hi F r : Nat} {d : Array Int} (h : hi ≤ 2 * r + 1) : Sort.siftDown Sort.ltInt hi F r d = d := by
 rw [Sort.siftDown, dif_pos h]
theorem gH {hi F r c : Nat} {d : Array Int} (hc : c = 2 * r + 1) (h : c + 1 < hi) (hl : Sort.ltInt d[F + c]! d[F + c + 1]! = true) :
  (Sort.ltInt d[F + r]! d[F + c + 1]! = false → Sort.siftDown Sort.ltInt hi F r d = d) ∧ (Sort.ltInt d[F + r]! d[F + c + 1]! = true → Sort.siftDown Sort.ltInt hi F r d = Sort.siftDown Sort.ltInt hi F (c + 1) (Sort.swp d (F + r) (F + c + 1))) := by
 subst hc
 have e : F + (2 * r + 1) + 1 = F + (2 * r + 2) := by omega
 rw [e] at hl ⊢
 constructor <;> intro h2 <;> conv => lhs; rw [Sort.siftDown, dif_neg (show ¬ 2 * r + 1 ≥ hi by omega), e, hl, h2]
 ·simp [h]
 ·simp [h, show 2 * r + 2 < hi by omega]
theorem eZ {hi F r c : Nat} {d : Array Int} (hc : c = 2 * r + 1) (h : c < hi) (hl : c + 1 < hi → Sort.ltInt d[F + c]! d[F + c + 1]! = false) :
  (Sort.ltInt d[F + r]! d[F + c]! = false → Sort.siftDown Sort.ltInt hi F r d = d) ∧ (Sort.ltInt d[F + r]! d[F + c]! = true → Sort.siftDown Sort.ltInt hi F r d = Sort.siftDown Sort.ltInt hi F c (Sort.swp d (F + r) (F + c))) := by
 subst hc
 have hz : (decide (2 * r + 1 + 1 < hi) && Sort.ltInt d[F + (2 * r + 1)]! d[F + (2 * r + 1) + 1]!) = false := by
  by_cases e : 2 * r + 1 + 1 < hi
  ·rw [hl e]; simp
  ·simp [e]
 constructor <;> intro h2 <;> conv => lhs; rw [Sort.siftDown, dif_neg (show ¬ 2 * r + 1 ≥ hi by omega), if_neg (show ¬ (decide (2 * r + 1 + 1 < hi) && Sort.ltInt d[F + (2 * r + 1)]! d[F + (2 * r + 1) + 1]!) = true by rw [hz]; exact Bool.false_ne_true), h2]
 ·simp
 ·simp
theorem ij (g cap n lo hi first : Nat) (d : Array Int) (w0 w : World) (hn : d.size = n) (hS : aN w0 g d w) (hlo : lo ≤ hi) (hb : first + hi ≤ n) (hsz : n ≤ 1048576) :
  Calls Try.prog 50 #[.slice (some ⟨g, 0, none⟩) n cap, .int .i64 lo, .int .i64 hi, .int .i64 first] w fun e w' => e = .returned (.tuple #[]) ∧ aN w0 g (Sort.siftDown Sort.ltInt hi first lo d) w' := by
 obtain ⟨R, HR⟩ : ∃ R, Hid (R = Sort.siftDown Sort.ltInt hi first lo d) := ⟨_, yz rfl⟩
 have HK0 : Hid (StK n w0 g (fun e => Sort.siftDown Sort.ltInt hi first lo e = R) d w) := yz ⟨hn, (yx HR).symm, hS⟩
 rw [← yx HR]
 clear hS hn HR
 go_enter Try.func50, Try.ntmps50
 go_wp2_with fail
 go_loopw [8] (fun u wr => ∃ (r : Nat) (dk : Array Int), u = .int .i64 r ∧ r ≤ hi ∧ Hid (StK n w0 g (fun e => Sort.siftDown Sort.ltInt hi first r e = R) dk wr)) (fun u _ => hi - (intOf u).toNat)
 case atStart => exact ⟨lo, d, rfl, hlo, HK0⟩
 case round =>
  obtain ⟨r, dk, rfl, hr, HK⟩ := hrel
  clear HK0
  obtain ⟨c, hc⟩ : ∃ c, c = 2 * r + 1 := ⟨_, rfl⟩
  have e0 : 2 * (r : Int) + 1 = (c : Int) := by omega
  by_cases hch : hi ≤ c
  ·have hcb : (c : Int) ≤ 2097153 := by omega
   have hge : (hi : Int) ≤ (c : Int) := by omega
   have hR : Sort.siftDown Sort.ltInt hi first r dk = R := (yx HK).same
   rw [iX (by omega)] at hR
   subst hR
   have HK2 := yz (yx HK).row
   clear HK hc
   go_wp2_with fail
   go_end0
   exact ⟨rfl, yx HK2⟩
  have hlt : ¬ (hi : Int) ≤ (c : Int) := by omega
  obtain ⟨p, hp⟩ : ∃ p, p = first + r := ⟨_, rfl⟩
  have ep : (first : Int) + (r : Int) = (p : Int) := by omega
  obtain ⟨q, hq⟩ : ∃ q, q = first + c := ⟨_, rfl⟩
  have eq : (first : Int) + (c : Int) = (q : Int) := by omega
  have hpn : p < n := by omega
  have hqn : q < n := by omega
  have HP := yz hp
  have HQ := yz hq
  have HC := yz hc
  clear hp hq hc
  by_cases h2 : c + 1 < hi
  ·have h2z : (c : Int) + 1 < (hi : Int) := by omega
   have hqn1 : q + 1 < n := by have h1 := yx HQ; omega
   obtain ⟨x, Hx⟩ : ∃ x, Hid (x = dk[q]!) := ⟨_, yz rfl⟩
   have cx : wr.cell? ⟨g, q, none⟩ = some (.int .u8 x) := by rw [yx Hx]; exact (yx HK).row.cells (q) (by have := (yx HK).size; omega)
   obtain ⟨y, Hy⟩ : ∃ x, Hid (x = dk[q + 1]!) := ⟨_, yz rfl⟩
   have cy : wr.cell? ⟨g, q + 1, none⟩ = some (.int .u8 y) := by rw [yx Hy]; exact (yx HK).row.cells (q + 1) (by have := (yx HK).size; omega)
   have cL := yz (fun (W : World) => aA x y W)
   have rx := cell_regrown cx
   have ry := cell_regrown cy
   clear cx cy
   cases hL : Sort.ltInt x y
   ·rw [hL] at cL
    go_wp2_with fail
    refine wp_region_quiet_below (by kernel_rfl) (by kernel_rfl) ?_
    repeat (go_big_quiet_step (first | (with_reducible exact Calls.regrown_of (yx cL _))))
    refine wpQuiet_nil ?_
    intro _ hw'
    obtain ⟨⟨dq, osq⟩, hw''⟩ := hw'
    subst hw''
    have hx := below_regrown wr dq osq
    replace HK := yz ((yx HK).kept hx)
    clear hx rx ry
    generalize Sort.grow (redrawn wr dq) osq = W2 at *
    clear cL
    go_wp2_with fail
    have HF : Hid ((Sort.ltInt dk[p]! dk[q]! = false → Sort.siftDown Sort.ltInt hi first r dk = dk) ∧ (Sort.ltInt dk[p]! dk[q]! = true → Sort.siftDown Sort.ltInt hi first r dk = Sort.siftDown Sort.ltInt hi first (c) (Sort.swp dk p (q)))) := yz (by have h := eZ (F := first) (d := dk) (yx HC) (show c < hi by omega) (fun _ => by rw [← yx HQ, ← yx Hx, ← yx Hy]; exact hL); rw [← yx HP, ← yx HQ] at h; exact h)
    obtain ⟨xp, Hxp⟩ : ∃ x, Hid (x = dk[p]!) := ⟨_, yz rfl⟩
    have cxp : W2.cell? ⟨g, p, none⟩ = some (.int .u8 xp) := by rw [yx Hxp]; exact (yx HK).row.cells (p) (by have := (yx HK).size; omega)
    obtain ⟨xq, Hxq⟩ : ∃ x, Hid (x = dk[q]!) := ⟨_, yz rfl⟩
    have cxq : W2.cell? ⟨g, q, none⟩ = some (.int .u8 xq) := by rw [yx Hxq]; exact (yx HK).row.cells (q) (by have := (yx HK).size; omega)
    have cL2 := yz (fun (W : World) => aA xp xq W)
    have rp := cell_regrown cxp
    have rq := cell_regrown cxq
    clear cxp cxq
    cases hM : Sort.ltInt xp xq
    ·rw [hM] at cL2
     go_wp2_with fail
     refine wp_region_quiet_below (by kernel_rfl) (by kernel_rfl) ?_
     repeat (go_big_quiet_step (first | (with_reducible exact Calls.regrown_of (yx cL2 _))))
     refine wpQuiet_nil ?_
     intro _ hw'
     obtain ⟨⟨dq, osq⟩, hw''⟩ := hw'
     subst hw''
     have hx := below_regrown W2 dq osq
     replace HK := yz ((yx HK).kept hx)
     clear hx rp rq
     generalize Sort.grow (redrawn W2 dq) osq = Y1 at *
     have hR : Sort.siftDown Sort.ltInt hi first r dk = R := (yx HK).same
     rw [(yx HF).1 (by rw [← yx Hxp, ← yx Hxq]; exact hM)] at hR
     subst hR
     have HK2 := yz (yx HK).row
     clear HK
     go_wp2_with fail
     (try simp only [Exit.inBlock, Exit.then])
     refine bodyPost_ret (results_none rfl _ _ _) rfl ?_
     exact ⟨rfl, yx HK2⟩
    ·rw [hM] at cL2
     go_wp2_with fail
     refine wp_region_quiet_below (by kernel_rfl) (by kernel_rfl) ?_
     repeat (go_big_quiet_step (first | (with_reducible exact Calls.regrown_of (yx cL2 _))))
     refine wpQuiet_nil ?_
     intro _ hw'
     obtain ⟨⟨dq, osq⟩, hw''⟩ := hw'
     subst hw''
     have hx := below_regrown W2 dq osq
     replace HK := yz ((yx HK).kept hx)
     clear hx rp rq
     generalize Sort.grow (redrawn W2 dq) osq = Y1 at *
     have cxp : Y1.cell? ⟨g, p, none⟩ = some (.int .u8 xp) := by rw [yx Hxp]; exact (yx HK).row.cells (p) (by have := (yx HK).size; omega)
     have cxq : Y1.cell? ⟨g, q, none⟩ = some (.int .u8 xq) := by rw [yx Hxq]; exact (yx HK).row.cells (q) (by have := (yx HK).size; omega)
     have fp := (yx HK).row.free p (by have := (yx HK).size; omega)
     have fq := (yx HK).row.free (q) (by have := (yx HK).size; omega)
     have HI : Hid (StK n w0 g (fun e => Sort.siftDown Sort.ltInt hi first (c) e = R) (Sort.swp dk p (q)) (((Y1.setCell ⟨g, p, none⟩ (.int .u8 xq)).setCell ⟨g, q, none⟩ (.int .u8 xp)).drew)) := yz ((yx HK).put (by omega) (by omega) Hxp Hxq (fun h => ((yx HF).2 (by rw [← yx Hxp, ← yx Hxq]; exact hM)).symm.trans h))
     clear HK Hxp Hxq cL2 HF
     go_wp2_with fail
     go_region
     go_wp2_with fail
     go_roundw
     case rel => exact ⟨c, Sort.swp dk p (q), by go_num, by omega, HI⟩
     case measure => have := yx HC; simp [intOf] <;> omega
   ·rw [hL] at cL
    go_wp2_with fail
    refine wp_region_quiet_below (by kernel_rfl) (by kernel_rfl) ?_
    repeat (go_big_quiet_step (first | (with_reducible exact Calls.regrown_of (yx cL _))))
    refine wpQuiet_nil ?_
    intro _ hw'
    obtain ⟨⟨dq, osq⟩, hw''⟩ := hw'
    subst hw''
    have hx := below_regrown wr dq osq
    replace HK := yz ((yx HK).kept hx)
    clear hx rx ry
    generalize Sort.grow (redrawn wr dq) osq = W2 at *
    clear cL
    have eq1 : (first : Int) + ((c : Int) + 1) = (q : Int) + 1 := by omega
    go_wp2_with fail
    have HF : Hid ((Sort.ltInt dk[p]! dk[q + 1]! = false → Sort.siftDown Sort.ltInt hi first r dk = dk) ∧ (Sort.ltInt dk[p]! dk[q + 1]! = true → Sort.siftDown Sort.ltInt hi first r dk = Sort.siftDown Sort.ltInt hi first (c + 1) (Sort.swp dk p (q + 1)))) := yz (by have h := gH (F := first) (d := dk) (yx HC) (show c + 1 < hi by omega) (by rw [← yx HQ, ← yx Hx, ← yx Hy]; exact hL); rw [← yx HP, ← yx HQ] at h; exact h)
    obtain ⟨xp, Hxp⟩ : ∃ x, Hid (x = dk[p]!) := ⟨_, yz rfl⟩
    have cxp : W2.cell? ⟨g, p, none⟩ = some (.int .u8 xp) := by rw [yx Hxp]; exact (yx HK).row.cells (p) (by have := (yx HK).size; omega)
    obtain ⟨xq, Hxq⟩ : ∃ x, Hid (x = dk[q + 1]!) := ⟨_, yz rfl⟩
    have cxq : W2.cell? ⟨g, q + 1, none⟩ = some (.int .u8 xq) := by rw [yx Hxq]; exact (yx HK).row.cells (q + 1) (by have := (yx HK).size; omega)
    have cL2 := yz (fun (W : World) => aA xp xq W)
    have rp := cell_regrown cxp
    have rq := cell_regrown cxq
    clear cxp cxq
    cases hM : Sort.ltInt xp xq
    ·rw [hM] at cL2
     go_wp2_with fail
     refine wp_region_quiet_below (by kernel_rfl) (by kernel_rfl) ?_
     repeat (go_big_quiet_step (first | (with_reducible exact Calls.regrown_of (yx cL2 _))))
     refine wpQuiet_nil ?_
     intro _ hw'
     obtain ⟨⟨dq, osq⟩, hw''⟩ := hw'
     subst hw''
     have hx := below_regrown W2 dq osq
     replace HK := yz ((yx HK).kept hx)
     clear hx rp rq
     generalize Sort.grow (redrawn W2 dq) osq = Y2 at *
     have hR : Sort.siftDown Sort.ltInt hi first r dk = R := (yx HK).same
     rw [(yx HF).1 (by rw [← yx Hxp, ← yx Hxq]; exact hM)] at hR
     subst hR
     have HK2 := yz (yx HK).row
     clear HK
     go_wp2_with fail
     (try simp only [Exit.inBlock, Exit.then])
     refine bodyPost_ret (results_none rfl _ _ _) rfl ?_
     exact ⟨rfl, yx HK2⟩
    ·rw [hM] at cL2
     go_wp2_with fail
     refine wp_region_quiet_below (by kernel_rfl) (by kernel_rfl) ?_
     repeat (go_big_quiet_step (first | (with_reducible exact Calls.regrown_of (yx cL2 _))))
     refine wpQuiet_nil ?_
     intro _ hw'
     obtain ⟨⟨dq, osq⟩, hw''⟩ := hw'
     subst hw''
     have hx := below_regrown W2 dq osq
     replace HK := yz ((yx HK).kept hx)
     clear hx rp rq
     generalize Sort.grow (redrawn W2 dq) osq = Y2 at *
     have cxp : Y2.cell? ⟨g, p, none⟩ = some (.int .u8 xp) := by rw [yx Hxp]; exact (yx HK).row.cells (p) (by have := (yx HK).size; omega)
     have cxq : Y2.cell? ⟨g, q + 1, none⟩ = some (.int .u8 xq) := by rw [yx Hxq]; exact (yx HK).row.cells (q + 1) (by have := (yx HK).size; omega)
     have fp := (yx HK).row.free p (by have := (yx HK).size; omega)
     have fq := (yx HK).row.free (q + 1) (by have := (yx HK).size; omega)
     have HI : Hid (StK n w0 g (fun e => Sort.siftDown Sort.ltInt hi first (c + 1) e = R) (Sort.swp dk p (q + 1)) (((Y2.setCell ⟨g, p, none⟩ (.int .u8 xq)).setCell ⟨g, q + 1, none⟩ (.int .u8 xp)).drew)) := yz ((yx HK).put (by omega) (by omega) Hxp Hxq (fun h => ((yx HF).2 (by rw [← yx Hxp, ← yx Hxq]; exact hM)).symm.trans h))
     clear HK Hxp Hxq cL2 HF
     go_wp2_with fail
     go_region
     go_wp2_with fail
     go_roundw
     case rel => exact ⟨c + 1, Sort.swp dk p (q + 1), by go_num, by omega, HI⟩
     case measure => have := yx HC; simp [intOf] <;> omega
  ·have h2z : decide ((c : Int) + 1 < (hi : Int)) = false := decide_eq_false (by omega)
   go_wp2_with fail
   refine wp_region_quiet_below (by kernel_rfl) (by kernel_rfl) ?_
   repeat (go_big_quiet_step (fail))
   refine wpQuiet_nil ?_
   intro _ hw'
   obtain ⟨⟨dq, osq⟩, hw''⟩ := hw'
   subst hw''
   have hx := below_regrown wr dq osq
   replace HK := yz ((yx HK).kept hx)
   clear hx 
   generalize Sort.grow (redrawn wr dq) osq = W2 at *
   go_wp2_with fail
   have HF : Hid ((Sort.ltInt dk[p]! dk[q]! = false → Sort.siftDown Sort.ltInt hi first r dk = dk) ∧ (Sort.ltInt dk[p]! dk[q]! = true → Sort.siftDown Sort.ltInt hi first r dk = Sort.siftDown Sort.ltInt hi first (c) (Sort.swp dk p (q)))) := yz (by have h := eZ (F := first) (d := dk) (yx HC) (show c < hi by omega) (fun h => absurd h h2); rw [← yx HP, ← yx HQ] at h; exact h)
   obtain ⟨xp, Hxp⟩ : ∃ x, Hid (x = dk[p]!) := ⟨_, yz rfl⟩
   have cxp : W2.cell? ⟨g, p, none⟩ = some (.int .u8 xp) := by rw [yx Hxp]; exact (yx HK).row.cells (p) (by have := (yx HK).size; omega)
   obtain ⟨xq, Hxq⟩ : ∃ x, Hid (x = dk[q]!) := ⟨_, yz rfl⟩
   have cxq : W2.cell? ⟨g, q, none⟩ = some (.int .u8 xq) := by rw [yx Hxq]; exact (yx HK).row.cells (q) (by have := (yx HK).size; omega)
   have cL2 := yz (fun (W : World) => aA xp xq W)
   have rp := cell_regrown cxp
   have rq := cell_regrown cxq
   clear cxp cxq
   cases hM : Sort.ltInt xp xq
   ·rw [hM] at cL2
    go_wp2_with fail
    refine wp_region_quiet_below (by kernel_rfl) (by kernel_rfl) ?_
    repeat (go_big_quiet_step (first | (with_reducible exact Calls.regrown_of (yx cL2 _))))
    refine wpQuiet_nil ?_
    intro _ hw'
    obtain ⟨⟨dq, osq⟩, hw''⟩ := hw'
    subst hw''
    have hx := below_regrown W2 dq osq
    replace HK := yz ((yx HK).kept hx)
    clear hx rp rq
    generalize Sort.grow (redrawn W2 dq) osq = Y3 at *
    have hR : Sort.siftDown Sort.ltInt hi first r dk = R := (yx HK).same
    rw [(yx HF).1 (by rw [← yx Hxp, ← yx Hxq]; exact hM)] at hR
    subst hR
    have HK2 := yz (yx HK).row
    clear HK
    go_wp2_with fail
    (try simp only [Exit.inBlock, Exit.then])
    refine bodyPost_ret (results_none rfl _ _ _) rfl ?_
    exact ⟨rfl, yx HK2⟩
   ·rw [hM] at cL2
    go_wp2_with fail
    refine wp_region_quiet_below (by kernel_rfl) (by kernel_rfl) ?_
    repeat (go_big_quiet_step (first | (with_reducible exact Calls.regrown_of (yx cL2 _))))
    refine wpQuiet_nil ?_
    intro _ hw'
    obtain ⟨⟨dq, osq⟩, hw''⟩ := hw'
    subst hw''
    have hx := below_regrown W2 dq osq
    replace HK := yz ((yx HK).kept hx)
    clear hx rp rq
    generalize Sort.grow (redrawn W2 dq) osq = Y3 at *
    have cxp : Y3.cell? ⟨g, p, none⟩ = some (.int .u8 xp) := by rw [yx Hxp]; exact (yx HK).row.cells (p) (by have := (yx HK).size; omega)
    have cxq : Y3.cell? ⟨g, q, none⟩ = some (.int .u8 xq) := by rw [yx Hxq]; exact (yx HK).row.cells (q) (by have := (yx HK).size; omega)
    have fp := (yx HK).row.free p (by have := (yx HK).size; omega)
    have fq := (yx HK).row.free (q) (by have := (yx HK).size; omega)
    have HI : Hid (StK n w0 g (fun e => Sort.siftDown Sort.ltInt hi first (c) e = R) (Sort.swp dk p (q)) (((Y3.setCell ⟨g, p, none⟩ (.int .u8 xq)).setCell ⟨g, q, none⟩ (.int .u8 xp)).drew)) := yz ((yx HK).put (by omega) (by omega) Hxp Hxq (fun h => ((yx HF).2 (by rw [← yx Hxp, ← yx Hxq]; exact hM)).symm.trans h))
    clear HK Hxp Hxq cL2 HF
    go_wp2_with fail
    go_region
    go_wp2_with fail
    go_roundw
    case rel => exact ⟨c, Sort.swp dk p (q), by go_num, by omega, HI⟩
    case measure => have := yx HC; simp [intOf] <;> omega
theorem fa {hi F : Nat} : ∀ {r : Nat} {d : Array Int}, (Sort.siftDown Sort.ltInt hi F r d).size = d.size := by
 intro r d
 fun_induction Sort.siftDown Sort.ltInt hi F r d <;> simp_all [Sort.size_swp]
theorem gX (g cap n a b : Nat) (d : Array Int) (w0 w : World) (hn : d.size = n) (hS : aN w0 g d w) (hab : a ≤ b) (hb : b ≤ n) (hsz : n ≤ 1048576) :
  Calls Try.prog 38 #[.slice (some ⟨g, 0, none⟩) n cap, .int .i64 a, .int .i64 b] w fun e w' => e = .returned (.tuple #[]) ∧ aN w0 g (Sort.heapSort Sort.ltInt d a b) w' := by
 obtain ⟨R, HR⟩ : ∃ R, Hid (R = Sort.heapBuild Sort.ltInt (b - a) a ((b - a - 1) / 2 + 1) d) := ⟨_, yz rfl⟩
 have HK0 : Hid (StK n w0 g (fun e => Sort.heapBuild Sort.ltInt (b - a) a ((b - a - 1) / 2 + 1) e = R) d w) := yz ⟨hn, (yx HR).symm, hS⟩
 obtain ⟨R2, HR2⟩ : ∃ R2, Hid (R2 = Sort.heapSort Sort.ltInt d a b) := ⟨_, yz rfl⟩
 have HE : Hid (Sort.heapPop Sort.ltInt a (b - a) R = R2) := yz (by rw [yx HR2, yx HR]; rfl)
 rw [← yx HR2]
 clear hS hn HR HR2
 have cS := yz (fun (lo hi : Nat) (e : Array Int) (W : World) (h1 : e.size = n) (h2 : aN w0 g e W) (h3 : lo ≤ hi) (h4 : a + hi ≤ n) => ij g cap n lo hi a e w0 W h1 h2 h3 h4 hsz)
 obtain ⟨m, hm⟩ : ∃ m, m = b - a := ⟨_, rfl⟩
 have em : (b : Int) - (a : Int) = (m : Int) := by omega
 obtain ⟨k0, hk0⟩ : ∃ k, k = (m - 1) / 2 + 1 := ⟨_, rfl⟩
 have ek : ((m : Int) - 1).tdiv 2 = (k0 : Int) - 1 := by
  by_cases h : m = 0
  ·subst h; subst hk0; rfl
  ·rw [Int.tdiv_eq_ediv_of_nonneg (by omega)]; omega
 rw [← hm] at HK0 HE
 rw [← hk0] at HK0
 have hkb : k0 ≤ 1048577 := by omega
 have hmn : a + m ≤ n := by omega
 have hm9 : (m : Int) ≤ 1048576 := by omega
 have HKM := yz hk0
 clear hm hk0
 go_enter Try.func38, Try.ntmps38
 go_wp2_with fail
 go_loopw [9] (fun u wr => ∃ (k : Nat) (dk : Array Int), u = .int .i64 ((k : Int) - 1) ∧ k ≤ k0 ∧ Hid (StK n w0 g (fun e => Sort.heapBuild Sort.ltInt m a k e = R) dk wr)) (fun u _ => (intOf u + 1).toNat)
 case atStart => exact ⟨k0, d, rfl, by omega, HK0⟩
 case round =>
  obtain ⟨k, dk, rfl, hk, HK⟩ := hrel
  clear HK0
  cases k with
  | zero =>
   have ez0 : ((0 : Nat) : Int) - 1 = -1 := by omega
   rw [ez0]
   have hR : dk = R := (yx HK).same
   subst hR
   have HJ0 : Hid (StK n w0 g (fun e => Sort.heapPop Sort.ltInt a m e = R2) dk wr) := yz ((yx HK).to (fun _ => yx HE))
   clear HK HE
   go_wp2_with fail
   go_loopw [10] (fun u ws => ∃ (k : Nat) (dj : Array Int), u = .int .i64 ((k : Int) - 1) ∧ k ≤ m ∧ Hid (StK n w0 g (fun e => Sort.heapPop Sort.ltInt a k e = R2) dj ws)) (fun u _ => (intOf u + 1).toNat)
   case atStart => exact ⟨m, dk, rfl, by omega, HJ0⟩
   case round =>
    obtain ⟨k, dj, rfl, hk, HJ⟩ := hrel
    clear HJ0
    cases k with
    | zero =>
     have hR : dj = R2 := (yx HJ).same
     subst hR
     have HK2 := yz (yx HJ).row
     clear HJ
     go_wp2_with fail
     go_end0
     exact ⟨rfl, yx HK2⟩
    | succ k =>
     have ez : ((k + 1 : Nat) : Int) - 1 = (k : Int) := by omega
     rw [ez]
     obtain ⟨q, hq⟩ : ∃ q, q = a + k := ⟨_, rfl⟩
     have eq : (a : Int) + (k : Int) = (q : Int) := by omega
     have hqn : q < n := by omega
     have han : a < n := by omega
     have hkz : (0 : Int) ≤ (k : Int) := by omega
     obtain ⟨x, Hx⟩ : ∃ x, Hid (x = dj[a]!) := ⟨_, yz rfl⟩
     obtain ⟨y, Hy⟩ : ∃ y, Hid (y = dj[q]!) := ⟨_, yz rfl⟩
     have cx : wr.cell? ⟨g, a, none⟩ = some (.int .u8 x) := by rw [yx Hx]; exact (yx HJ).row.cells a (by have := (yx HJ).size; omega)
     have cy : wr.cell? ⟨g, q, none⟩ = some (.int .u8 y) := by rw [yx Hy]; exact (yx HJ).row.cells q (by have := (yx HJ).size; omega)
     have fx := (yx HJ).row.free a (by have := (yx HJ).size; omega)
     have fy := (yx HJ).row.free q (by have := (yx HJ).size; omega)
     have HI : Hid (StK n w0 g (fun e => Sort.heapPop Sort.ltInt a k (Sort.siftDown Sort.ltInt k a 0 e) = R2) (Sort.swp dj a q) (((wr.setCell ⟨g, a, none⟩ (.int .u8 y)).setCell ⟨g, q, none⟩ (.int .u8 x)).drew)) := yz ((yx HJ).put han hqn Hx Hy (fun h => by rw [hq]; exact h))
     have HQ := yz hq
     clear HJ Hx Hy hq
     obtain ⟨z, gz⟩ : ∃ z, (wr.setCell ⟨g, a, none⟩ (.int .u8 y)).cell? ⟨g, q, none⟩ = some (.int .u8 z) := by
      by_cases e : q = a
      ·subst e; exact ⟨y, World.cell?_setCell_same _ _ _ cx⟩
      ·exact ⟨y, by rw [World.cell?_setCell_other _ _ _ _ (fun h => e (by simpa using (congrArg Addr.off h).symm))]; exact cy⟩
     have gz2 : (wr.setCell ⟨g, a, none⟩ (.int .u8 y)).drew.cell? ⟨g, q, none⟩ = some (.int .u8 z) := gz
     go_wp2_with fail
     go_region
     generalize (((wr.setCell ⟨g, a, none⟩ (.int .u8 y)).setCell ⟨g, q, none⟩ (.int .u8 x)).drew) = W1 at *
     go_wp2_with fail
     refine (yx cS 0 k (Sort.swp dj a q) W1 (yx HI).size (yx HI).row (Nat.zero_le _) (by omega)).mono ?_
     rintro e W2 ⟨rfl, h2⟩
     have HI2 : Hid (StK n w0 g (fun e => Sort.heapPop Sort.ltInt a k e = R2) (Sort.siftDown Sort.ltInt k a 0 (Sort.swp dj a q)) W2) := yz ⟨by rw [fa]; exact (yx HI).size, (yx HI).same, h2⟩
     clear h2 HI
     go_wp2_with fail
     go_roundw
     case rel => exact ⟨k, _, rfl, by omega, HI2⟩
     case measure => simp [intOf] <;> omega
  | succ k =>
   have ez : ((k + 1 : Nat) : Int) - 1 = (k : Int) := by omega
   rw [ez]
   have hkz : (0 : Int) ≤ (k : Int) := by omega
   have hkm : k ≤ m := by have := yx HKM; omega
   go_wp2_with fail
   refine (yx cS k m dk wr (yx HK).size (yx HK).row hkm hmn).mono ?_
   rintro e W1 ⟨rfl, h2⟩
   have HI : Hid (StK n w0 g (fun e => Sort.heapBuild Sort.ltInt m a k e = R) (Sort.siftDown Sort.ltInt m a k dk) W1) := yz ⟨by rw [fa]; exact (yx HK).size, (yx HK).same, h2⟩
   clear h2 HK
   go_wp2_with fail
   go_roundw
   case rel => exact ⟨k, _, rfl, by omega, HI⟩
   case measure => simp [intOf] <;> omega
end
end Go.Proofs.Ytackifnnhjbgbaa
