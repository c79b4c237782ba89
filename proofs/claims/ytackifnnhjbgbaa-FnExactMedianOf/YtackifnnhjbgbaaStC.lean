/- The sort of bytes: a heap. -/
import Derived.Test.YtackifnnhjbgbaaStB
namespace Go.Proofs.Ytackifnnhjbgbaa
open Go.RowKit
set_option linter.unusedVariables false
set_option linter.unusedSimpArgs false

theorem sift_end {hi F r : Nat} {d : Array Int} (h : hi ≤ 2 * r + 1) : Sort.siftDown Sort.ltInt hi F r d = d := by
  rw [Sort.siftDown, dif_pos h]
theorem sift_right {hi F r c : Nat} {d : Array Int} (hc : c = 2 * r + 1) (h : c + 1 < hi) (hl : Sort.ltInt d[F + c]! d[F + c + 1]! = true) :
    (Sort.ltInt d[F + r]! d[F + c + 1]! = false → Sort.siftDown Sort.ltInt hi F r d = d) ∧ (Sort.ltInt d[F + r]! d[F + c + 1]! = true → Sort.siftDown Sort.ltInt hi F r d = Sort.siftDown Sort.ltInt hi F (c + 1) (Sort.swp d (F + r) (F + c + 1))) := by
  subst hc
  have e : F + (2 * r + 1) + 1 = F + (2 * r + 2) := by omega
  rw [e] at hl ⊢
  constructor <;> intro h2 <;> conv => lhs; rw [Sort.siftDown, dif_neg (show ¬ 2 * r + 1 ≥ hi by omega), e, hl, h2]
  · simp [h]
  · simp [h, show 2 * r + 2 < hi by omega]
theorem sift_left {hi F r c : Nat} {d : Array Int} (hc : c = 2 * r + 1) (h : c < hi) (hl : c + 1 < hi → Sort.ltInt d[F + c]! d[F + c + 1]! = false) :
    (Sort.ltInt d[F + r]! d[F + c]! = false → Sort.siftDown Sort.ltInt hi F r d = d) ∧ (Sort.ltInt d[F + r]! d[F + c]! = true → Sort.siftDown Sort.ltInt hi F r d = Sort.siftDown Sort.ltInt hi F c (Sort.swp d (F + r) (F + c))) := by
  subst hc
  have hz : (decide (2 * r + 1 + 1 < hi) && Sort.ltInt d[F + (2 * r + 1)]! d[F + (2 * r + 1) + 1]!) = false := by
    by_cases e : 2 * r + 1 + 1 < hi
    · rw [hl e]; simp
    · simp [e]
  constructor <;> intro h2 <;> conv => lhs; rw [Sort.siftDown, dif_neg (show ¬ 2 * r + 1 ≥ hi by omega), if_neg (show ¬ (decide (2 * r + 1 + 1 < hi) && Sort.ltInt d[F + (2 * r + 1)]! d[F + (2 * r + 1) + 1]!) = true by rw [hz]; exact Bool.false_ne_true), h2]
  · simp
  · simp
set_option maxHeartbeats 1600000 in
set_option maxRecDepth 1000000 in
theorem sift8_any (g cap n lo hi first : Nat) (d : Array Int) (w0 w : World) (hn : d.size = n) (hS : SrtR w0 g d w) (hlo : lo ≤ hi) (hb : first + hi ≤ n) (hsz : n ≤ 1048576) :
    Calls Try.prog 50 #[.slice (some ⟨g, 0, none⟩) n cap, .int .i64 lo, .int .i64 hi, .int .i64 first] w fun e w' => e = .returned (.tuple #[]) ∧ SrtR w0 g (Sort.siftDown Sort.ltInt hi first lo d) w' := by
  obtain ⟨R, HR⟩ : ∃ R, Hid (R = Sort.siftDown Sort.ltInt hi first lo d) := ⟨_, hide rfl⟩
  have HK0 : Hid (StK n w0 g (fun e => Sort.siftDown Sort.ltInt hi first lo e = R) d w) := hide ⟨hn, (unhide HR).symm, hS⟩
  rw [← unhide HR]
  clear hS hn HR
  go_enter Try.func50, Try.ntmps50
  go_wp2_with fail
  go_loopw [8] (fun u wr => ∃ (r : Nat) (dk : Array Int), u = .int .i64 r ∧ r ≤ hi ∧ Hid (StK n w0 g (fun e => Sort.siftDown Sort.ltInt hi first r e = R) dk wr)) (fun u _ => hi - (intOf u).toNat)
  case atStart => exact ⟨lo, d, rfl, hlo, HK0⟩
  case round =>
    obtain ⟨r, dk, rfl, hr, HK⟩ := hrel
    clear HK0
    obtain ⟨c, hc⟩ : ∃ c, c = 2 * r + 1 := ⟨_, rfl⟩
    have e0 : 2 * (r : Int) + 1 = (c : Int) := by omega
    by_cases hch : hi ≤ c
    · have hcb : (c : Int) ≤ 2097153 := by omega
      have hge : (hi : Int) ≤ (c : Int) := by omega
      have hR : Sort.siftDown Sort.ltInt hi first r dk = R := (unhide HK).same
      rw [sift_end (by omega)] at hR
      subst hR
      have HK2 := hide (unhide HK).row
      clear HK hc
      go_wp2_with fail
      go_end0
      exact ⟨rfl, unhide HK2⟩
    have hlt : ¬ (hi : Int) ≤ (c : Int) := by omega
    obtain ⟨p, hp⟩ : ∃ p, p = first + r := ⟨_, rfl⟩
    have ep : (first : Int) + (r : Int) = (p : Int) := by omega
    obtain ⟨q, hq⟩ : ∃ q, q = first + c := ⟨_, rfl⟩
    have eq : (first : Int) + (c : Int) = (q : Int) := by omega
    have hpn : p < n := by omega
    have hqn : q < n := by omega
    have HP := hide hp
    have HQ := hide hq
    have HC := hide hc
    clear hp hq hc
    by_cases h2 : c + 1 < hi
    · have h2z : (c : Int) + 1 < (hi : Int) := by omega
      have hqn1 : q + 1 < n := by have h1 := unhide HQ; omega
      obtain ⟨x, Hx⟩ : ∃ x, Hid (x = dk[q]!) := ⟨_, hide rfl⟩
      have cx : wr.cell? ⟨g, q, none⟩ = some (.int .u8 x) := by rw [unhide Hx]; exact (unhide HK).row.cells (q) (by have := (unhide HK).size; omega)
      obtain ⟨y, Hy⟩ : ∃ x, Hid (x = dk[q + 1]!) := ⟨_, hide rfl⟩
      have cy : wr.cell? ⟨g, q + 1, none⟩ = some (.int .u8 y) := by rw [unhide Hy]; exact (unhide HK).row.cells (q + 1) (by have := (unhide HK).size; omega)
      have cL := hide (fun (W : World) => less8_any x y W)
      have rx := cell_regrown cx
      have ry := cell_regrown cy
      clear cx cy
      cases hL : Sort.ltInt x y
      · rw [hL] at cL
        go_wp2_with fail
        refine wp_region_quiet_below (by kernel_rfl) (by kernel_rfl) ?_
        repeat (go_big_quiet_step (first | (with_reducible exact Calls.regrown_of (unhide cL _))))
        refine wpQuiet_nil ?_
        intro _ hw'
        obtain ⟨⟨dq, osq⟩, hw''⟩ := hw'
        subst hw''
        have hx := below_regrown wr dq osq
        replace HK := hide ((unhide HK).kept hx)
        clear hx rx ry
        generalize Sort.grow (redrawn wr dq) osq = W2 at *
        clear cL
        go_wp2_with fail
        have HF : Hid ((Sort.ltInt dk[p]! dk[q]! = false → Sort.siftDown Sort.ltInt hi first r dk = dk) ∧ (Sort.ltInt dk[p]! dk[q]! = true → Sort.siftDown Sort.ltInt hi first r dk = Sort.siftDown Sort.ltInt hi first (c) (Sort.swp dk p (q)))) := hide (by have h := sift_left (F := first) (d := dk) (unhide HC) (show c < hi by omega) (fun _ => by rw [← unhide HQ, ← unhide Hx, ← unhide Hy]; exact hL); rw [← unhide HP, ← unhide HQ] at h; exact h)
        obtain ⟨xp, Hxp⟩ : ∃ x, Hid (x = dk[p]!) := ⟨_, hide rfl⟩
        have cxp : W2.cell? ⟨g, p, none⟩ = some (.int .u8 xp) := by rw [unhide Hxp]; exact (unhide HK).row.cells (p) (by have := (unhide HK).size; omega)
        obtain ⟨xq, Hxq⟩ : ∃ x, Hid (x = dk[q]!) := ⟨_, hide rfl⟩
        have cxq : W2.cell? ⟨g, q, none⟩ = some (.int .u8 xq) := by rw [unhide Hxq]; exact (unhide HK).row.cells (q) (by have := (unhide HK).size; omega)
        have cL2 := hide (fun (W : World) => less8_any xp xq W)
        have rp := cell_regrown cxp
        have rq := cell_regrown cxq
        clear cxp cxq
        cases hM : Sort.ltInt xp xq
        · rw [hM] at cL2
          go_wp2_with fail
          refine wp_region_quiet_below (by kernel_rfl) (by kernel_rfl) ?_
          repeat (go_big_quiet_step (first | (with_reducible exact Calls.regrown_of (unhide cL2 _))))
          refine wpQuiet_nil ?_
          intro _ hw'
          obtain ⟨⟨dq, osq⟩, hw''⟩ := hw'
          subst hw''
          have hx := below_regrown W2 dq osq
          replace HK := hide ((unhide HK).kept hx)
          clear hx rp rq
          generalize Sort.grow (redrawn W2 dq) osq = Y1 at *
          have hR : Sort.siftDown Sort.ltInt hi first r dk = R := (unhide HK).same
          rw [(unhide HF).1 (by rw [← unhide Hxp, ← unhide Hxq]; exact hM)] at hR
          subst hR
          have HK2 := hide (unhide HK).row
          clear HK
          go_wp2_with fail
          (try simp only [Exit.inBlock, Exit.then])
          refine bodyPost_ret (results_none rfl _ _ _) rfl ?_
          exact ⟨rfl, unhide HK2⟩
        · rw [hM] at cL2
          go_wp2_with fail
          refine wp_region_quiet_below (by kernel_rfl) (by kernel_rfl) ?_
          repeat (go_big_quiet_step (first | (with_reducible exact Calls.regrown_of (unhide cL2 _))))
          refine wpQuiet_nil ?_
          intro _ hw'
          obtain ⟨⟨dq, osq⟩, hw''⟩ := hw'
          subst hw''
          have hx := below_regrown W2 dq osq
          replace HK := hide ((unhide HK).kept hx)
          clear hx rp rq
          generalize Sort.grow (redrawn W2 dq) osq = Y1 at *
          have cxp : Y1.cell? ⟨g, p, none⟩ = some (.int .u8 xp) := by rw [unhide Hxp]; exact (unhide HK).row.cells (p) (by have := (unhide HK).size; omega)
          have cxq : Y1.cell? ⟨g, q, none⟩ = some (.int .u8 xq) := by rw [unhide Hxq]; exact (unhide HK).row.cells (q) (by have := (unhide HK).size; omega)
          have fp := (unhide HK).row.free p (by have := (unhide HK).size; omega)
          have fq := (unhide HK).row.free (q) (by have := (unhide HK).size; omega)
          have HI : Hid (StK n w0 g (fun e => Sort.siftDown Sort.ltInt hi first (c) e = R) (Sort.swp dk p (q)) (((Y1.setCell ⟨g, p, none⟩ (.int .u8 xq)).setCell ⟨g, q, none⟩ (.int .u8 xp)).drew)) := hide ((unhide HK).put (by omega) (by omega) Hxp Hxq (fun h => ((unhide HF).2 (by rw [← unhide Hxp, ← unhide Hxq]; exact hM)).symm.trans h))
          clear HK Hxp Hxq cL2 HF
          go_wp2_with fail
          go_region
          go_wp2_with fail
          go_roundw
          case rel => exact ⟨c, Sort.swp dk p (q), by go_num, by omega, HI⟩
          case measure => have := unhide HC; simp [intOf] <;> omega
      · rw [hL] at cL
        go_wp2_with fail
        refine wp_region_quiet_below (by kernel_rfl) (by kernel_rfl) ?_
        repeat (go_big_quiet_step (first | (with_reducible exact Calls.regrown_of (unhide cL _))))
        refine wpQuiet_nil ?_
        intro _ hw'
        obtain ⟨⟨dq, osq⟩, hw''⟩ := hw'
        subst hw''
        have hx := below_regrown wr dq osq
        replace HK := hide ((unhide HK).kept hx)
        clear hx rx ry
        generalize Sort.grow (redrawn wr dq) osq = W2 at *
        clear cL
        have eq1 : (first : Int) + ((c : Int) + 1) = (q : Int) + 1 := by omega
        go_wp2_with fail
        have HF : Hid ((Sort.ltInt dk[p]! dk[q + 1]! = false → Sort.siftDown Sort.ltInt hi first r dk = dk) ∧ (Sort.ltInt dk[p]! dk[q + 1]! = true → Sort.siftDown Sort.ltInt hi first r dk = Sort.siftDown Sort.ltInt hi first (c + 1) (Sort.swp dk p (q + 1)))) := hide (by have h := sift_right (F := first) (d := dk) (unhide HC) (show c + 1 < hi by omega) (by rw [← unhide HQ, ← unhide Hx, ← unhide Hy]; exact hL); rw [← unhide HP, ← unhide HQ] at h; exact h)
        obtain ⟨xp, Hxp⟩ : ∃ x, Hid (x = dk[p]!) := ⟨_, hide rfl⟩
        have cxp : W2.cell? ⟨g, p, none⟩ = some (.int .u8 xp) := by rw [unhide Hxp]; exact (unhide HK).row.cells (p) (by have := (unhide HK).size; omega)
        obtain ⟨xq, Hxq⟩ : ∃ x, Hid (x = dk[q + 1]!) := ⟨_, hide rfl⟩
        have cxq : W2.cell? ⟨g, q + 1, none⟩ = some (.int .u8 xq) := by rw [unhide Hxq]; exact (unhide HK).row.cells (q + 1) (by have := (unhide HK).size; omega)
        have cL2 := hide (fun (W : World) => less8_any xp xq W)
        have rp := cell_regrown cxp
        have rq := cell_regrown cxq
        clear cxp cxq
        cases hM : Sort.ltInt xp xq
        · rw [hM] at cL2
          go_wp2_with fail
          refine wp_region_quiet_below (by kernel_rfl) (by kernel_rfl) ?_
          repeat (go_big_quiet_step (first | (with_reducible exact Calls.regrown_of (unhide cL2 _))))
          refine wpQuiet_nil ?_
          intro _ hw'
          obtain ⟨⟨dq, osq⟩, hw''⟩ := hw'
          subst hw''
          have hx := below_regrown W2 dq osq
          replace HK := hide ((unhide HK).kept hx)
          clear hx rp rq
          generalize Sort.grow (redrawn W2 dq) osq = Y2 at *
          have hR : Sort.siftDown Sort.ltInt hi first r dk = R := (unhide HK).same
          rw [(unhide HF).1 (by rw [← unhide Hxp, ← unhide Hxq]; exact hM)] at hR
          subst hR
          have HK2 := hide (unhide HK).row
          clear HK
          go_wp2_with fail
          (try simp only [Exit.inBlock, Exit.then])
          refine bodyPost_ret (results_none rfl _ _ _) rfl ?_
          exact ⟨rfl, unhide HK2⟩
        · rw [hM] at cL2
          go_wp2_with fail
          refine wp_region_quiet_below (by kernel_rfl) (by kernel_rfl) ?_
          repeat (go_big_quiet_step (first | (with_reducible exact Calls.regrown_of (unhide cL2 _))))
          refine wpQuiet_nil ?_
          intro _ hw'
          obtain ⟨⟨dq, osq⟩, hw''⟩ := hw'
          subst hw''
          have hx := below_regrown W2 dq osq
          replace HK := hide ((unhide HK).kept hx)
          clear hx rp rq
          generalize Sort.grow (redrawn W2 dq) osq = Y2 at *
          have cxp : Y2.cell? ⟨g, p, none⟩ = some (.int .u8 xp) := by rw [unhide Hxp]; exact (unhide HK).row.cells (p) (by have := (unhide HK).size; omega)
          have cxq : Y2.cell? ⟨g, q + 1, none⟩ = some (.int .u8 xq) := by rw [unhide Hxq]; exact (unhide HK).row.cells (q + 1) (by have := (unhide HK).size; omega)
          have fp := (unhide HK).row.free p (by have := (unhide HK).size; omega)
          have fq := (unhide HK).row.free (q + 1) (by have := (unhide HK).size; omega)
          have HI : Hid (StK n w0 g (fun e => Sort.siftDown Sort.ltInt hi first (c + 1) e = R) (Sort.swp dk p (q + 1)) (((Y2.setCell ⟨g, p, none⟩ (.int .u8 xq)).setCell ⟨g, q + 1, none⟩ (.int .u8 xp)).drew)) := hide ((unhide HK).put (by omega) (by omega) Hxp Hxq (fun h => ((unhide HF).2 (by rw [← unhide Hxp, ← unhide Hxq]; exact hM)).symm.trans h))
          clear HK Hxp Hxq cL2 HF
          go_wp2_with fail
          go_region
          go_wp2_with fail
          go_roundw
          case rel => exact ⟨c + 1, Sort.swp dk p (q + 1), by go_num, by omega, HI⟩
          case measure => have := unhide HC; simp [intOf] <;> omega
    · have h2z : decide ((c : Int) + 1 < (hi : Int)) = false := decide_eq_false (by omega)
      go_wp2_with fail
      refine wp_region_quiet_below (by kernel_rfl) (by kernel_rfl) ?_
      repeat (go_big_quiet_step (fail))
      refine wpQuiet_nil ?_
      intro _ hw'
      obtain ⟨⟨dq, osq⟩, hw''⟩ := hw'
      subst hw''
      have hx := below_regrown wr dq osq
      replace HK := hide ((unhide HK).kept hx)
      clear hx 
      generalize Sort.grow (redrawn wr dq) osq = W2 at *
      go_wp2_with fail
      have HF : Hid ((Sort.ltInt dk[p]! dk[q]! = false → Sort.siftDown Sort.ltInt hi first r dk = dk) ∧ (Sort.ltInt dk[p]! dk[q]! = true → Sort.siftDown Sort.ltInt hi first r dk = Sort.siftDown Sort.ltInt hi first (c) (Sort.swp dk p (q)))) := hide (by have h := sift_left (F := first) (d := dk) (unhide HC) (show c < hi by omega) (fun h => absurd h h2); rw [← unhide HP, ← unhide HQ] at h; exact h)
      obtain ⟨xp, Hxp⟩ : ∃ x, Hid (x = dk[p]!) := ⟨_, hide rfl⟩
      have cxp : W2.cell? ⟨g, p, none⟩ = some (.int .u8 xp) := by rw [unhide Hxp]; exact (unhide HK).row.cells (p) (by have := (unhide HK).size; omega)
      obtain ⟨xq, Hxq⟩ : ∃ x, Hid (x = dk[q]!) := ⟨_, hide rfl⟩
      have cxq : W2.cell? ⟨g, q, none⟩ = some (.int .u8 xq) := by rw [unhide Hxq]; exact (unhide HK).row.cells (q) (by have := (unhide HK).size; omega)
      have cL2 := hide (fun (W : World) => less8_any xp xq W)
      have rp := cell_regrown cxp
      have rq := cell_regrown cxq
      clear cxp cxq
      cases hM : Sort.ltInt xp xq
      · rw [hM] at cL2
        go_wp2_with fail
        refine wp_region_quiet_below (by kernel_rfl) (by kernel_rfl) ?_
        repeat (go_big_quiet_step (first | (with_reducible exact Calls.regrown_of (unhide cL2 _))))
        refine wpQuiet_nil ?_
        intro _ hw'
        obtain ⟨⟨dq, osq⟩, hw''⟩ := hw'
        subst hw''
        have hx := below_regrown W2 dq osq
        replace HK := hide ((unhide HK).kept hx)
        clear hx rp rq
        generalize Sort.grow (redrawn W2 dq) osq = Y3 at *
        have hR : Sort.siftDown Sort.ltInt hi first r dk = R := (unhide HK).same
        rw [(unhide HF).1 (by rw [← unhide Hxp, ← unhide Hxq]; exact hM)] at hR
        subst hR
        have HK2 := hide (unhide HK).row
        clear HK
        go_wp2_with fail
        (try simp only [Exit.inBlock, Exit.then])
        refine bodyPost_ret (results_none rfl _ _ _) rfl ?_
        exact ⟨rfl, unhide HK2⟩
      · rw [hM] at cL2
        go_wp2_with fail
        refine wp_region_quiet_below (by kernel_rfl) (by kernel_rfl) ?_
        repeat (go_big_quiet_step (first | (with_reducible exact Calls.regrown_of (unhide cL2 _))))
        refine wpQuiet_nil ?_
        intro _ hw'
        obtain ⟨⟨dq, osq⟩, hw''⟩ := hw'
        subst hw''
        have hx := below_regrown W2 dq osq
        replace HK := hide ((unhide HK).kept hx)
        clear hx rp rq
        generalize Sort.grow (redrawn W2 dq) osq = Y3 at *
        have cxp : Y3.cell? ⟨g, p, none⟩ = some (.int .u8 xp) := by rw [unhide Hxp]; exact (unhide HK).row.cells (p) (by have := (unhide HK).size; omega)
        have cxq : Y3.cell? ⟨g, q, none⟩ = some (.int .u8 xq) := by rw [unhide Hxq]; exact (unhide HK).row.cells (q) (by have := (unhide HK).size; omega)
        have fp := (unhide HK).row.free p (by have := (unhide HK).size; omega)
        have fq := (unhide HK).row.free (q) (by have := (unhide HK).size; omega)
        have HI : Hid (StK n w0 g (fun e => Sort.siftDown Sort.ltInt hi first (c) e = R) (Sort.swp dk p (q)) (((Y3.setCell ⟨g, p, none⟩ (.int .u8 xq)).setCell ⟨g, q, none⟩ (.int .u8 xp)).drew)) := hide ((unhide HK).put (by omega) (by omega) Hxp Hxq (fun h => ((unhide HF).2 (by rw [← unhide Hxp, ← unhide Hxq]; exact hM)).symm.trans h))
        clear HK Hxp Hxq cL2 HF
        go_wp2_with fail
        go_region
        go_wp2_with fail
        go_roundw
        case rel => exact ⟨c, Sort.swp dk p (q), by go_num, by omega, HI⟩
        case measure => have := unhide HC; simp [intOf] <;> omega
theorem sift_size {hi F : Nat} : ∀ {r : Nat} {d : Array Int}, (Sort.siftDown Sort.ltInt hi F r d).size = d.size := by
  intro r d
  fun_induction Sort.siftDown Sort.ltInt hi F r d <;> simp_all [Sort.size_swp]
set_option maxHeartbeats 1600000 in
set_option maxRecDepth 1000000 in
theorem heap8_any (g cap n a b : Nat) (d : Array Int) (w0 w : World) (hn : d.size = n) (hS : SrtR w0 g d w) (hab : a ≤ b) (hb : b ≤ n) (hsz : n ≤ 1048576) :
    Calls Try.prog 38 #[.slice (some ⟨g, 0, none⟩) n cap, .int .i64 a, .int .i64 b] w fun e w' => e = .returned (.tuple #[]) ∧ SrtR w0 g (Sort.heapSort Sort.ltInt d a b) w' := by
  obtain ⟨R, HR⟩ : ∃ R, Hid (R = Sort.heapBuild Sort.ltInt (b - a) a ((b - a - 1) / 2 + 1) d) := ⟨_, hide rfl⟩
  have HK0 : Hid (StK n w0 g (fun e => Sort.heapBuild Sort.ltInt (b - a) a ((b - a - 1) / 2 + 1) e = R) d w) := hide ⟨hn, (unhide HR).symm, hS⟩
  obtain ⟨R2, HR2⟩ : ∃ R2, Hid (R2 = Sort.heapSort Sort.ltInt d a b) := ⟨_, hide rfl⟩
  have HE : Hid (Sort.heapPop Sort.ltInt a (b - a) R = R2) := hide (by rw [unhide HR2, unhide HR]; rfl)
  rw [← unhide HR2]
  clear hS hn HR HR2
  have cS := hide (fun (lo hi : Nat) (e : Array Int) (W : World) (h1 : e.size = n) (h2 : SrtR w0 g e W) (h3 : lo ≤ hi) (h4 : a + hi ≤ n) => sift8_any g cap n lo hi a e w0 W h1 h2 h3 h4 hsz)
  obtain ⟨m, hm⟩ : ∃ m, m = b - a := ⟨_, rfl⟩
  have em : (b : Int) - (a : Int) = (m : Int) := by omega
  obtain ⟨k0, hk0⟩ : ∃ k, k = (m - 1) / 2 + 1 := ⟨_, rfl⟩
  have ek : ((m : Int) - 1).tdiv 2 = (k0 : Int) - 1 := by
    by_cases h : m = 0
    · subst h; subst hk0; rfl
    · rw [Int.tdiv_eq_ediv_of_nonneg (by omega)]; omega
  rw [← hm] at HK0 HE
  rw [← hk0] at HK0
  have hkb : k0 ≤ 1048577 := by omega
  have hmn : a + m ≤ n := by omega
  have hm9 : (m : Int) ≤ 1048576 := by omega
  have HKM := hide hk0
  clear hm hk0
  go_enter Try.func38, Try.ntmps38
  go_wp2_with fail
  go_loopw [9] (fun u wr => ∃ (k : Nat) (dk : Array Int), u = .int .i64 ((k : Int) - 1) ∧ k ≤ k0 ∧ Hid (StK n w0 g (fun e => Sort.heapBuild Sort.ltInt m a k e = R) dk wr)) (fun u _ => (intOf u + 1).toNat)
  case atStart => exact ⟨k0, d, rfl, by omega, HK0⟩
  case round =>
    obtain ⟨k, dk, rfl, hk, HK⟩ := hrel
    clear HK0
    cases k with
    | zero =>
      have ez0 : ((0 : Nat) : Int) - 1 = -1 := by omega
      rw [ez0]
      have hR : dk = R := (unhide HK).same
      subst hR
      have HJ0 : Hid (StK n w0 g (fun e => Sort.heapPop Sort.ltInt a m e = R2) dk wr) := hide ((unhide HK).to (fun _ => unhide HE))
      clear HK HE
      go_wp2_with fail
      go_loopw [10] (fun u ws => ∃ (k : Nat) (dj : Array Int), u = .int .i64 ((k : Int) - 1) ∧ k ≤ m ∧ Hid (StK n w0 g (fun e => Sort.heapPop Sort.ltInt a k e = R2) dj ws)) (fun u _ => (intOf u + 1).toNat)
      case atStart => exact ⟨m, dk, rfl, by omega, HJ0⟩
      case round =>
        obtain ⟨k, dj, rfl, hk, HJ⟩ := hrel
        clear HJ0
        cases k with
        | zero =>
          have hR : dj = R2 := (unhide HJ).same
          subst hR
          have HK2 := hide (unhide HJ).row
          clear HJ
          go_wp2_with fail
          go_end0
          exact ⟨rfl, unhide HK2⟩
        | succ k =>
          have ez : ((k + 1 : Nat) : Int) - 1 = (k : Int) := by omega
          rw [ez]
          obtain ⟨q, hq⟩ : ∃ q, q = a + k := ⟨_, rfl⟩
          have eq : (a : Int) + (k : Int) = (q : Int) := by omega
          have hqn : q < n := by omega
          have han : a < n := by omega
          have hkz : (0 : Int) ≤ (k : Int) := by omega
          obtain ⟨x, Hx⟩ : ∃ x, Hid (x = dj[a]!) := ⟨_, hide rfl⟩
          obtain ⟨y, Hy⟩ : ∃ y, Hid (y = dj[q]!) := ⟨_, hide rfl⟩
          have cx : wr.cell? ⟨g, a, none⟩ = some (.int .u8 x) := by rw [unhide Hx]; exact (unhide HJ).row.cells a (by have := (unhide HJ).size; omega)
          have cy : wr.cell? ⟨g, q, none⟩ = some (.int .u8 y) := by rw [unhide Hy]; exact (unhide HJ).row.cells q (by have := (unhide HJ).size; omega)
          have fx := (unhide HJ).row.free a (by have := (unhide HJ).size; omega)
          have fy := (unhide HJ).row.free q (by have := (unhide HJ).size; omega)
          have HI : Hid (StK n w0 g (fun e => Sort.heapPop Sort.ltInt a k (Sort.siftDown Sort.ltInt k a 0 e) = R2) (Sort.swp dj a q) (((wr.setCell ⟨g, a, none⟩ (.int .u8 y)).setCell ⟨g, q, none⟩ (.int .u8 x)).drew)) := hide ((unhide HJ).put han hqn Hx Hy (fun h => by rw [hq]; exact h))
          have HQ := hide hq
          clear HJ Hx Hy hq
          obtain ⟨z, gz⟩ : ∃ z, (wr.setCell ⟨g, a, none⟩ (.int .u8 y)).cell? ⟨g, q, none⟩ = some (.int .u8 z) := by
            by_cases e : q = a
            · subst e; exact ⟨y, World.cell?_setCell_same _ _ _ cx⟩
            · exact ⟨y, by rw [World.cell?_setCell_other _ _ _ _ (fun h => e (by simpa using (congrArg Addr.off h).symm))]; exact cy⟩
          have gz2 : (wr.setCell ⟨g, a, none⟩ (.int .u8 y)).drew.cell? ⟨g, q, none⟩ = some (.int .u8 z) := gz
          go_wp2_with fail
          go_region
          generalize (((wr.setCell ⟨g, a, none⟩ (.int .u8 y)).setCell ⟨g, q, none⟩ (.int .u8 x)).drew) = W1 at *
          go_wp2_with fail
          refine (unhide cS 0 k (Sort.swp dj a q) W1 (unhide HI).size (unhide HI).row (Nat.zero_le _) (by omega)).mono ?_
          rintro e W2 ⟨rfl, h2⟩
          have HI2 : Hid (StK n w0 g (fun e => Sort.heapPop Sort.ltInt a k e = R2) (Sort.siftDown Sort.ltInt k a 0 (Sort.swp dj a q)) W2) := hide ⟨by rw [sift_size]; exact (unhide HI).size, (unhide HI).same, h2⟩
          clear h2 HI
          go_wp2_with fail
          go_roundw
          case rel => exact ⟨k, _, rfl, by omega, HI2⟩
          case measure => simp [intOf] <;> omega
    | succ k =>
      have ez : ((k + 1 : Nat) : Int) - 1 = (k : Int) := by omega
      rw [ez]
      have hkz : (0 : Int) ≤ (k : Int) := by omega
      have hkm : k ≤ m := by have := unhide HKM; omega
      go_wp2_with fail
      refine (unhide cS k m dk wr (unhide HK).size (unhide HK).row hkm hmn).mono ?_
      rintro e W1 ⟨rfl, h2⟩
      have HI : Hid (StK n w0 g (fun e => Sort.heapBuild Sort.ltInt m a k e = R) (Sort.siftDown Sort.ltInt m a k dk) W1) := hide ⟨by rw [sift_size]; exact (unhide HK).size, (unhide HK).same, h2⟩
      clear h2 HK
      go_wp2_with fail
      go_roundw
      case rel => exact ⟨k, _, rfl, by omega, HI⟩
      case measure => simp [intOf] <;> omega
end Go.Proofs.Ytackifnnhjbgbaa
