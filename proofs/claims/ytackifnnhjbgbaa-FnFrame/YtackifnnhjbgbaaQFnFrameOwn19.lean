/- Several texts in one: StI. -/
import Derived.Deep.Cut
import Derived.Test.YtackifnnhjbgbaaQFnFrameOwn18
namespace Go.Proofs.Ytackifnnhjbgbaa
set_option linter.unusedVariables false
set_option linter.unusedSimpArgs false
set_option maxRecDepth 100000
set_option maxHeartbeats 8000000
section
open Go.RowKit
def gg (a b : Nat) (d : Array Int) (p q : Nat) (e : Array Int) : Prop := ∀ f, Sort.PermIn p q e f → Sort.SortedIn Sort.ltInt p q f → Sort.PermIn a b d f ∧ Sort.SortedIn Sort.ltInt a b f
theorem gg.perm {a b p q : Nat} {d e e2 : Array Int} (h : gg a b d p q e) (h2 : Sort.PermIn p q e e2) : gg a b d p q e2 := fun f hf hs => h f (Sort.permIn_trans _ _ _ p q h2 hf) hs
theorem gg.all {a b : Nat} {d : Array Int} : gg a b d a b d := fun f hf hs => ⟨hf, hs⟩
def PdQ (n a b : Nat) (d : Array Int) (p q : Nat) (e : Array Int) : Prop := Sort.Below Sort.ltInt p q e ∧ gg a b d p q e
theorem PdQ.perm {n a b p q : Nat} {d e e2 : Array Int} (h : PdQ n a b d p q e) (hq : q ≤ e.size) (h2 : Sort.PermIn p q e e2) : PdQ n a b d p q e2 := ⟨Sort.Below.perm h.1 hq h2, h.2.perm h2⟩
theorem PdQ.done {n a b p q : Nat} {d e e2 : Array Int} (h : PdQ n a b d p q e) (h2 : Sort.PermIn p q e e2) (hs : Sort.SortedIn Sort.ltInt p q e2) : Sort.PermIn a b d e2 ∧ Sort.SortedIn Sort.ltInt a b e2 := h.2 e2 h2 hs
theorem jK {n a b p q pv : Nat} {d e : Array Int} (h : PdQ n a b d p q e) (h0 : 0 < p) (h1 : p ≤ pv) (h2 : pv < q) (hq : q ≤ e.size) (hl : Sort.ltInt e[p - 1]! e[pv]! = false) :
    p < (Sort.partitionEqual Sort.ltInt e p q pv).1 ∧ (Sort.partitionEqual Sort.ltInt e p q pv).1 ≤ q ∧ (Sort.partitionEqual Sort.ltInt e p q pv).2.size = e.size ∧ PdQ n a b d (Sort.partitionEqual Sort.ltInt e p q pv).1 q (Sort.partitionEqual Sort.ltInt e p q pv).2 := by
  obtain ⟨r1, r2, r3, r4, r5⟩ := Sort.round_eq Sort.swo_ltInt (Sort.partitionEqual_holds _) h0 h1 h2 hq h.1 hl (mid := (Sort.partitionEqual Sort.ltInt e p q pv).1) (d4 := (Sort.partitionEqual Sort.ltInt e p q pv).2) rfl
  exact ⟨r1, r2, r3, r4, fun f hf hs => by obtain ⟨g1, g2⟩ := r5 f hf hs; exact h.2 f g1 g2⟩
theorem iP {n a b p q pv : Nat} {d e : Array Int} (h : PdQ n a b d p q e) (h1 : p ≤ pv) (h2 : pv < q) (hq : q ≤ e.size) :
    p ≤ (Sort.partition Sort.ltInt e p q pv).1 ∧ (Sort.partition Sort.ltInt e p q pv).1 < q ∧ (Sort.partition Sort.ltInt e p q pv).2.2.size = e.size ∧ Sort.Below Sort.ltInt p (Sort.partition Sort.ltInt e p q pv).1 (Sort.partition Sort.ltInt e p q pv).2.2 ∧ Sort.Below Sort.ltInt ((Sort.partition Sort.ltInt e p q pv).1 + 1) q (Sort.partition Sort.ltInt e p q pv).2.2 ∧
    (∀ f, Sort.PermIn p (Sort.partition Sort.ltInt e p q pv).1 (Sort.partition Sort.ltInt e p q pv).2.2 f → Sort.SortedIn Sort.ltInt p (Sort.partition Sort.ltInt e p q pv).1 f → PdQ n a b d ((Sort.partition Sort.ltInt e p q pv).1 + 1) q f) ∧
    (∀ f, Sort.PermIn ((Sort.partition Sort.ltInt e p q pv).1 + 1) q (Sort.partition Sort.ltInt e p q pv).2.2 f → Sort.SortedIn Sort.ltInt ((Sort.partition Sort.ltInt e p q pv).1 + 1) q f → PdQ n a b d p (Sort.partition Sort.ltInt e p q pv).1 f) := by
  obtain ⟨r1, r2, r3, r4, r5, r6, r7⟩ := Sort.round_part Sort.swo_ltInt (Sort.partition_holds _) h1 h2 hq h.1 (mid := (Sort.partition Sort.ltInt e p q pv).1) (ap := (Sort.partition Sort.ltInt e p q pv).2.1) (d4 := (Sort.partition Sort.ltInt e p q pv).2.2) rfl
  exact ⟨r1, r2, r3, r4, r5, fun f hf hs => by obtain ⟨g1, g2⟩ := r6 f hf hs; exact ⟨g1, fun f2 hf2 hs2 => by obtain ⟨k1, k2⟩ := g2 f2 hf2 hs2; exact h.2 f2 k1 k2⟩, fun f hf hs => by obtain ⟨g1, g2⟩ := r7 f hf hs; exact ⟨g1, fun f2 hf2 hs2 => by obtain ⟨k1, k2⟩ := g2 f2 hf2 hs2; exact h.2 f2 k1 k2⟩⟩
theorem iO (g cap n : Nat) (w0 : World) (hsz : n ≤ 255) : ∀ (N a b lim : Nat) (d : Array Int) (w : World), b - a < N → d.size = n → aN w0 g d w → a ≤ b → b ≤ n → lim ≤ 1000 → Sort.Below Sort.ltInt a b d →
    Calls Try.prog 29 #[.slice (some ⟨g, 0, none⟩) n cap, .int .i64 a, .int .i64 b, .int .i64 lim] w fun e w' => e = .returned (.tuple #[]) ∧ ∃ d', StK n w0 g (fun e => Sort.PermIn a b d e ∧ Sort.SortedIn Sort.ltInt a b e) d' w' := by
  intro N
  induction N with
  | zero => intro _ _ _ _ _ h; exact absurd h (Nat.not_lt_zero _)
  | succ N ih =>
    intro a b lim d w hN hd hS hab hb hlim hBel
    have HK0 : Hid (StK n w0 g (PdQ n a b d a b) d w) := yz ⟨hd, ⟨hBel, gg.all⟩, hS⟩
    have IH := yz ih
    clear ih hS hd hBel
    go_enter Try.func29, Try.ntmps29
    go_wp2_with fail
    go_loopw [1, 2, 3, 8, 9] (fun v1 v2 v3 v8 v9 wr => ∃ (p q l : Nat) (x y : Bool) (e : Array Int), v1 = .int .i64 p ∧ v2 = .int .i64 q ∧ v3 = .int .i64 l ∧ v8 = .bool x ∧ v9 = .bool y ∧ p ≤ q ∧ q ≤ n ∧ q - p ≤ b - a ∧ l ≤ lim ∧ Hid (StK n w0 g (PdQ n a b d p q) e wr)) (fun v1 v2 _ _ _ _ => (intOf v2 - intOf v1).toNat)
    case atStart => exact ⟨a, b, lim, true, true, d, rfl, rfl, rfl, rfl, rfl, hab, hb, Nat.le_refl _, Nat.le_refl _, HK0⟩
    case round =>
      obtain ⟨p, q, l, x, y, e, rfl, rfl, rfl, rfl, rfl, hpq, hqn, hqp, hll, HK⟩ := hrel
      clear HK0
      have hqe : q ≤ e.size := by have := (yx HK).size; omega
      have HQE := yz hqe
      clear hqe
      by_cases h12 : q - p ≤ 12
      · have h12z : (q : Int) - (p : Int) ≤ 12 := by omega
        have cI := yz (ef g cap p q e w0 wr (yx HK).row hpq (yx HQE) (by have := (yx HK).size; omega))
        rw [(yx HK).size] at cI
        go_wp2_with fail
        refine (yx cI).mono ?_
        rintro r W1 ⟨rfl, hS⟩
        have HS := yz hS
        clear hS cI
        go_wp2_with fail
        (try simp only [Exit.inBlock, Exit.then])
        refine bodyPost_ret (results_none rfl _ _ _) rfl ?_
        obtain ⟨i1, i2⟩ := Sort.insertionSort_holds Sort.swo_ltInt e p q hpq (yx HQE)
        exact ⟨rfl, _, ⟨by rw [i1.1]; exact (yx HK).size, (yx HK).same.done i1 i2, yx HS⟩⟩
      · have h12z : ¬ (q : Int) - (p : Int) ≤ 12 := by omega
        by_cases hl0 : l = 0
        · have hlz : ((l : Int) == 0) = true := by rw [hl0]; rfl
          have cI := yz (gX g cap n p q e w0 wr (yx HK).size (yx HK).row hpq hqn (by omega))
          go_wp2_with fail
          refine (yx cI).mono ?_
          rintro r W1 ⟨rfl, hS⟩
          have HS := yz hS
          clear hS cI
          go_wp2_with fail
          (try simp only [Exit.inBlock, Exit.then])
          refine bodyPost_ret (results_none rfl _ _ _) rfl ?_
          obtain ⟨i1, i2⟩ := Sort.heapSort_holds Sort.swo_ltInt e p q hpq (yx HQE)
          exact ⟨rfl, _, ⟨by rw [i1.1]; exact (yx HK).size, (yx HK).same.done i1 i2, yx HS⟩⟩
        have hlz : ((l : Int) == 0) = false := by simp [hl0]
        go_upto_if 35 with fail
        go_cut [3] from 36 (fun v wx => ∃ (l2 : Nat) (e2 : Array Int), v = .int .i64 l2 ∧ l2 ≤ l ∧ Hid (StK n w0 g (PdQ n a b d p q) e2 wx))
        case first =>
          have hp12 : p + 12 < q := by omega
          cases x
          · have cB := yz (gm g cap n p q e e w0 wr ((yx HK).to (fun _ => Sort.permIn_refl e p q)) hp12 hqn (yx HK).size hsz)
            have HKQ : Hid (PdQ n a b d p q e) := yz (yx HK).same
            have hl9 : (l : Int) ≤ 1000 := by omega
            have hl8 : (0 : Int) ≤ (l : Int) := by omega
            clear HK
            go_wp2_with fail
            refine (yx cB).mono ?_
            rintro r W1 ⟨rfl, e2, hS⟩
            have HS : Hid (StK n w0 g (PdQ n a b d p q) e2 W1) := yz (hS.to (fun h => (yx HKQ).perm (yx HQE) h))
            clear hS cB HKQ
            go_wp2_with fail
            go_meet
            exact ⟨l - 1, e2, by first | (congr 1; omega) | go_num, by omega, HS⟩
          · go_wp2_with fail
            go_meet
            exact ⟨l, e, rfl, by omega, HK⟩
        case rest =>
          obtain ⟨l2, e2, rfl, hl2, HK2⟩ := hcut
          clear HK HQE
          have HQ2 : Hid (q ≤ e2.size) := yz (by have := (yx HK2).size; omega)
          have cP := yz (gE g cap n p q e2 w0 wc ((yx HK2).to (fun _ => trivial)) (by omega) hqn (by omega))
          have HP2 : Hid (PdQ n a b d p q e2) := yz (yx HK2).same
          clear HK2
          go_wp2_with fail
          refine (yx cP).mono ?_
          rintro r W2 ⟨pv, hh, rfl, hv1, hv2, hS⟩
          have HS2 := yz hS
          clear hS cP
          go_upto_if 50 with fail
          go_cut [11, 12, 50] from 51 (fun v1 v2 _ wx => ∃ (pw : Nat) (h2 : Int) (e3 : Array Int), v1 = .int .i64 pw ∧ v2 = .int .i64 h2 ∧ p ≤ pw ∧ pw < q ∧ Hid (StK n w0 g (PdQ n a b d p q) e3 wx))
          case first =>
            by_cases hd : hh = 2
            · subst hd
              have cR := yz (fD g cap p q e2 w0 W2 (yx HS2).row hpq (yx HQ2) (by have := (yx HS2).size; omega))
              rw [(yx HS2).size] at cR
              have hz2 := (yx HS2).size
              have HZ2 := yz hz2
              obtain ⟨pw, hpw⟩ : ∃ k, k = q - 1 - (pv - p) := ⟨_, rfl⟩
              have epw : (q : Int) - 1 - ((pv : Int) - (p : Int)) = (pw : Int) := by omega
              have hw1 : p ≤ pw := by omega
              have hw2 : pw < q := by omega
              clear HS2 hpw hz2
              go_wp2_with fail
              refine (yx cR).mono ?_
              rintro r W3 ⟨rfl, e3, i1, hS⟩
              have HS3 : Hid (StK n w0 g (PdQ n a b d p q) e3 W3) := yz ⟨by rw [i1.1]; exact yx HZ2, (yx HP2).perm (yx HQ2) i1, hS⟩
              clear hS i1 cR
              go_wp2_with fail
              go_meet
              exact ⟨pw, 1, e3, rfl, rfl, hw1, hw2, HS3⟩
            · have hdz : (hh == 2) = false := by simp [hd]
              have HS3 : Hid (StK n w0 g (PdQ n a b d p q) e2 W2) := yz ((yx HS2).to (fun _ => yx HP2))
              clear HS2
              go_wp2_with fail
              go_meet
              exact ⟨pv, hh, e2, rfl, rfl, hv1, hv2, HS3⟩
          case rest =>
            obtain ⟨pw, h2, e3, rfl, rfl, hw1, hw2, HK3⟩ := hcut
            clear HS2 HP2 HQ2
            go_upto_region 15 with fail
            go_cut [68] from 61 (fun v wx => ∃ z : Bool, v = .bool z ∧ Hid (StK n w0 g (PdQ n a b d p q) e3 wx))
            case first =>
              by_cases k1 : h2 = 1
              · subst k1
                cases x <;> cases y <;>
                  (go_wp2_with fail
                   go_meet
                   exact ⟨_, rfl, HK3⟩)
              · have k1z : (h2 == 1) = false := by simp [k1]
                cases x <;> cases y <;>
                  (go_wp2_with fail
                   go_meet
                   exact ⟨_, rfl, HK3⟩)
            case rest =>
              obtain ⟨z, rfl, HK4⟩ := hcut
              clear HK3
              go_upto_if 68 with fail
              go_cut [68] from 69 (fun _ wx => ∃ e4 : Array Int, Hid (StK n w0 g (PdQ n a b d p q) e4 wx))
              case first =>
                cases z
                · go_wp2_with fail
                  go_meet
                  exact ⟨e3, HK4⟩
                · have cI := yz (fC g cap n p q e3 w0 wc (yx HK4).size (yx HK4).row (by omega) hqn (by omega))
                  have PI := yz (Sort.partialInsertionSort_holds Sort.swo_ltInt e3 p q (by omega) (by have := (yx HK4).size; omega) (yx HK4).same.1)
                  have HQ4 : Hid (q ≤ e3.size) := yz (by have := (yx HK4).size; omega)
                  have HP4 : Hid (PdQ n a b d p q e3) := yz (yx HK4).same
                  have HZ4 : Hid (e3.size = n) := yz (yx HK4).size
                  clear HK4
                  generalize Sort.partialInsertionSort Sort.ltInt e3 p q = res at *
                  obtain ⟨e5, ok⟩ := res
                  go_wp2_with fail
                  refine (yx cI).mono ?_
                  rintro r W1 ⟨rfl, hS⟩
                  have HS := yz hS
                  clear hS cI
                  cases ok
                  · have HS3 : Hid (StK n w0 g (PdQ n a b d p q) e5 W1) := yz ⟨by rw [(yx PI).1.1]; exact yx HZ4, (yx HP4).perm (yx HQ4) (yx PI).1, yx HS⟩
                    go_wp2_with fail
                    go_meet
                    exact ⟨e5, HS3⟩
                  · go_wp2_with fail
                    (try simp only [Exit.inBlock, Exit.then])
                    refine bodyPost_ret (results_none rfl _ _ _) rfl ?_
                    exact ⟨rfl, e5, ⟨by rw [(yx PI).1.1]; exact yx HZ4, (yx HP4).done (yx PI).1 ((yx PI).2 trivial), yx HS⟩⟩
              case rest =>
                obtain ⟨e4, HK5⟩ := hcut
                clear HK4
                have hwn : pw < n := by omega
                go_upto_region 17 with fail
                go_cut [87] from 73 (fun v wx => ∃ z : Bool, v = .bool z ∧ Hid (z = true → 0 < p ∧ Sort.ltInt e4[p - 1]! e4[pw]! = false) ∧ Hid (StK n w0 g (PdQ n a b d p q) e4 wx))
                case first =>
                  by_cases hp0 : 0 < p
                  · obtain ⟨m, rfl⟩ : ∃ m, p = m + 1 := ⟨p - 1, by omega⟩
                    have hpz : (0 : Int) < (m : Int) + 1 := by omega
                    have hmn : m < n := by omega
                    obtain ⟨xx, Hxx⟩ : ∃ x, Hid (x = e4[m]!) := ⟨_, yz rfl⟩
                    have cxx : wc.cell? ⟨g, m, none⟩ = some (.int .u8 xx) := by rw [yx Hxx]; exact (yx HK5).row.cells (m) (by have := (yx HK5).size; omega)
                    obtain ⟨yy, Hyy⟩ : ∃ x, Hid (x = e4[pw]!) := ⟨_, yz rfl⟩
                    have cyy : wc.cell? ⟨g, pw, none⟩ = some (.int .u8 yy) := by rw [yx Hyy]; exact (yx HK5).row.cells (pw) (by have := (yx HK5).size; omega)
                    have cL := yz (fun (W : World) => aA xx yy W)
                    have rx := cell_regrown cxx
                    have ry := cell_regrown cyy
                    clear cxx cyy
                    cases hL : Sort.ltInt xx yy
                    · rw [hL] at cL
                      have HF : Hid (Sort.ltInt e4[m + 1 - 1]! e4[pw]! = false) := yz (by rw [Nat.add_sub_cancel, ← yx Hxx, ← yx Hyy]; exact hL)
                      clear Hxx Hyy
                      go_wp2_with fail
                      refine wp_region_quiet_below (by kernel_rfl) (by kernel_rfl) ?_
                      repeat (go_big_quiet_step (first | (with_reducible exact Calls.regrown_of (yx cL _))))
                      refine wpQuiet_nil ?_
                      intro _ hw'
                      obtain ⟨⟨dq, osq⟩, hw''⟩ := hw'
                      subst hw''
                      have hx := below_regrown wc dq osq
                      replace HK5 := yz ((yx HK5).kept hx)
                      clear hx rx ry
                      generalize Sort.grow (redrawn wc dq) osq = W9 at *
                      clear cL
                      go_wp2_with fail
                      go_meet
                      exact ⟨true, rfl, yz (fun _ => ⟨by omega, yx HF⟩), HK5⟩
                    · rw [hL] at cL
                      clear Hxx Hyy
                      go_wp2_with fail
                      refine wp_region_quiet_below (by kernel_rfl) (by kernel_rfl) ?_
                      repeat (go_big_quiet_step (first | (with_reducible exact Calls.regrown_of (yx cL _))))
                      refine wpQuiet_nil ?_
                      intro _ hw'
                      obtain ⟨⟨dq, osq⟩, hw''⟩ := hw'
                      subst hw''
                      have hx := below_regrown wc dq osq
                      replace HK5 := yz ((yx HK5).kept hx)
                      clear hx rx ry
                      generalize Sort.grow (redrawn wc dq) osq = W9 at *
                      clear cL
                      go_wp2_with fail
                      go_meet
                      exact ⟨false, rfl, yz (fun h => by cases h), HK5⟩
                  · have hpz : decide ((0 : Int) < (p : Int)) = false := decide_eq_false (by omega)
                    go_wp2_with fail
                    refine wp_region_quiet_below (by kernel_rfl) (by kernel_rfl) ?_
                    repeat (go_big_quiet_step (fail))
                    refine wpQuiet_nil ?_
                    intro _ hw'
                    obtain ⟨⟨dq, osq⟩, hw''⟩ := hw'
                    subst hw''
                    have hx := below_regrown wc dq osq
                    replace HK5 := yz ((yx HK5).kept hx)
                    clear hx 
                    generalize Sort.grow (redrawn wc dq) osq = W9 at *
                    go_wp2_with fail
                    go_meet
                    exact ⟨false, rfl, yz (fun h => by cases h), HK5⟩
                case rest =>
                  obtain ⟨z, rfl, HF, HK6⟩ := hcut
                  clear HK5
                  cases z
                  · clear HF
                    have cQ := yz (ic g cap n p q pw e4 w0 wc (yx HK6).size (yx HK6).row hw1 hw2 hqn (by omega))
                    obtain ⟨m1, m2, z5, b1, b2, g1, g2⟩ := iP (yx HK6).same hw1 hw2 (by have := (yx HK6).size; omega)
                    have HZ5 := yz (z5.trans (yx HK6).size)
                    have B1 := yz b1
                    have B2 := yz b2
                    have G1 := yz g1
                    have G2 := yz g2
                    clear z5 b1 b2 g1 g2 HK6
                    generalize Sort.partition Sort.ltInt e4 p q pw = res at *
                    obtain ⟨mid, ap, d5⟩ := res
                    dsimp only at m1 m2 HZ5 B1 B2 G1 G2
                    go_wp2_with fail
                    refine (yx cQ).mono ?_
                    rintro r W5 ⟨rfl, hS⟩
                    have HS5 := yz hS
                    clear hS cQ
                    by_cases hsz2 : mid - p < q - mid
                    · have hsz3 : (mid : Int) - (p : Int) < (q : Int) - (mid : Int) := by omega
                      have cR := yz (yx IH p mid l2 d5 W5 (by omega) (yx HZ5) (yx HS5) (by omega) (by omega) (by omega) (yx B1))
                      go_wp2_with fail
                      refine (yx cR).mono ?_
                      rintro r W6 ⟨rfl, e6, hS⟩
                      have HS6 : Hid (StK n w0 g (PdQ n a b d (mid + 1) q) e6 W6) := yz (hS.to (fun h => yx G1 e6 h.1 h.2))
                      clear hS cR
                      go_wp2_with fail
                      go_roundw
                      case rel => exact ⟨mid + 1, q, l2, _, ap, e6, by go_num, rfl, rfl, rfl, rfl, by omega, hqn, by omega, by omega, HS6⟩
                      case measure => simp [intOf] <;> omega
                    · have hsz3 : ¬ (mid : Int) - (p : Int) < (q : Int) - (mid : Int) := by omega
                      have cR := yz (yx IH (mid + 1) q l2 d5 W5 (by omega) (yx HZ5) (yx HS5) (by omega) (by omega) (by omega) (yx B2))
                      go_wp2_with fail
                      refine (yx cR).mono ?_
                      rintro r W6 ⟨rfl, e6, hS⟩
                      have HS6 : Hid (StK n w0 g (PdQ n a b d p mid) e6 W6) := yz (hS.to (fun h => yx G2 e6 h.1 h.2))
                      clear hS cR
                      go_wp2_with fail
                      go_roundw
                      case rel => exact ⟨p, mid, l2, _, ap, e6, rfl, rfl, rfl, rfl, rfl, by omega, by omega, by omega, by omega, HS6⟩
                      case measure => simp [intOf] <;> omega
                  · obtain ⟨hp0, hlt0⟩ := yx HF rfl
                    have cQ := yz (fX g cap n p q pw e4 w0 wc (yx HK6).size (yx HK6).row hw1 hw2 hqn (by omega))
                    obtain ⟨m1, m2, z5, b1⟩ := jK (yx HK6).same hp0 hw1 hw2 (by have := (yx HK6).size; omega) hlt0
                    have HZ5 := yz (z5.trans (yx HK6).size)
                    have B1 := yz b1
                    clear z5 b1 hlt0 HF HK6
                    generalize Sort.partitionEqual Sort.ltInt e4 p q pw = res at *
                    obtain ⟨mid, d5⟩ := res
                    dsimp only at m1 m2 HZ5 B1
                    go_wp2_with fail
                    refine (yx cQ).mono ?_
                    rintro r W5 ⟨rfl, hS⟩
                    have HS5 : Hid (StK n w0 g (PdQ n a b d mid q) d5 W5) := yz ⟨yx HZ5, yx B1, hS⟩
                    clear hS cQ
                    go_wp2_with fail
                    go_roundw
                    case rel => exact ⟨mid, q, l2, x, y, d5, rfl, rfl, rfl, rfl, rfl, by omega, hqn, by omega, by omega, HS5⟩
                    case measure => simp [intOf] <;> omega
end
end Go.Proofs.Ytackifnnhjbgbaa
