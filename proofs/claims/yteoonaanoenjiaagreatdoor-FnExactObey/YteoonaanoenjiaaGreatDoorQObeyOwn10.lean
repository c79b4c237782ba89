/- Several texts in one: ObB, VecJ, VecK, VecL, SkyF, SkyG, SkyI. -/
import Derived.Lib.QuietBelow
import Derived.Deep.QuietTactic
import Derived.BigQuiet
import Derived.OwnWalk
import Derived.Laws.OwnMore
import Derived.Test.YteoonaanoenjiaaGreatDoorQObeyOwn9
import Derived.Test.YteoonaanoenjiaaGreatDoorQObeyOwn4
namespace Go.Proofs.YteoonaanoenjiaaGreatDoor
open Go.RowKit Go.Sort
set_option linter.unusedVariables false
set_option linter.unusedSimpArgs false
theorem among_succ (P : List D3) (v : D3) (j : Nat) : amongB P v (j + 1) = (amongB P v j || sameD v (vA P j)) := by
  unfold amongB
  rw [List.range_succ, List.any_append]
  simp
def rightA (R : List D3) : Prop := ∀ j, j < R.length → rightB (vA R j).1 (vA R j).2.1 (vA R j).2.2 = true
theorem few_right {R : List D3} (h : rightA R) (i k : Nat) (hi : i ≤ R.length) (hk : k < (fewTo R i).length) : rightB (vA (fewTo R i) k).1 (vA (fewTo R i) k).2.1 (vA (fewTo R i) k).2.2 = true := by
  obtain ⟨j, hj, e⟩ := few_of R i k hk
  rw [e]
  exact h j (by omega)
theorem right_within {x y z : Int} (h : rightB x y z = true) : withinB 1000000 x y z = true := by
  unfold rightB at h
  rw [Bool.and_eq_true] at h
  exact h.1
set_option maxHeartbeats 4000000 in
set_option maxRecDepth 100000 in
theorem l08Few_any (R : List D3) (a1 : Option Addr) (c1 : Nat) (w : World) (hn8 : R.length ≤ 8) (hR : rightA R) (hD : Dirs w a1 R R.length) (hA : ∀ y, a1 = some y → y.block < w.heap.size) :
    Calls Tryz.prog 65 #[.slice a1 R.length c1] w fun e w' => (∃ v, e = .returned v ∧ w'.ownsRow w.heap.size 111 3 v (fewS R).length (flatV (fewS R))) ∧ Below w.heap.size w w' := by
  obtain ⟨i0, hinf, hz0, hz1, hz2⟩ := info_parts info_vec
  have hm8 : 400 ≤ maxLen := by decide +kernel
  have Z0 := below1 w (.cells #[] 111)
  have HST : Hid (FewSt w (w.alloc (.cells #[] 111)) w.heap.size a1 R) := yz ⟨hD.kept Z0, hA, Nat.le_refl _, Z0.size, Z0⟩
  have HO : Hid ((w.alloc (.cells #[] 111)).ownsRow w.heap.size 111 3 (.slice (some ⟨w.heap.size, 0, none⟩) 0 0) (fewTo R 0).length (flatV (fewTo R 0))) := yz (ownV_none w _ (Nat.le_refl _))
  have HR := yz hR
  clear Z0 hD hA hR
  obtain ⟨n, hn⟩ : ∃ n, R.length = n := ⟨_, rfl⟩
  have HN := yz hn
  rw [hn] at hn8 ⊢
  clear hn
  go_enter Tryz.func65, Tryz.ntmps65
  go_wp2_with fail
  go_loopw [3, 4] (fun v kk wr => ∃ k : Nat, k ≤ n ∧ kk = .int .i64 k ∧ Hid (wr.ownsRow w.heap.size 111 3 v (fewTo R k).length (flatV (fewTo R k))) ∧ Hid (FewSt w wr w.heap.size a1 R)) (fun _ kk _ => n - (intOf kk).toNat)
  case atStart => exact ⟨0, by omega, rfl, HO, HST⟩
  case round =>
    clear HO HST
    obtain ⟨k, hk, rfl, HO, HST⟩ := hrel
    obtain ⟨a3, c3, rfl⟩ := own_slice (yx HO)
    obtain ⟨m, hm⟩ : ∃ m, (fewTo R k).length = m := ⟨_, rfl⟩
    have HM := yz hm
    have hfl := (few_len R k).1
    rw [hm] at hfl HO ⊢
    by_cases hkn : k < n
    · have hkn2 : (k : Int) < (n : Int) := by omega
      have hdk : decide ((k : Int) < (n : Int)) = true := decide_eq_true hkn2
      by_cases h6 : m < 6
      · have h6' : (m : Int) < 6 := by omega
        have hd : decide ((m : Int) < 6) = true := decide_eq_true h6'
        obtain ⟨b, o, ha, c0, c1', c2⟩ := dir_cells (yx HST).dirs (show k < R.length by rw [yx HN]; exact hkn)
        subst ha
        have HA := yz (fun h1 h2 => few_add (L := R) (i := k) h1 h2)
        have HS := yz (fun h1 => few_same (L := R) (i := k) h1)
        have HQ := yz (fun j hj => few_right (yx HR) k j (by rw [yx HN]; exact hk) hj)
        have hqw := yx HR k (by rw [yx HN]; exact hkn)
        obtain ⟨⟨q1, q2, q3⟩, hq⟩ : ∃ q, vA R k = q := ⟨_, rfl⟩
        rw [hq] at HA HS c0 c1' c2 hqw
        dsimp only at c0 c1' c2 hqw
        have HW := yz hqw
        obtain ⟨P2, hP2⟩ : ∃ P2, fewTo R (k + 1) = P2 := ⟨_, rfl⟩
        rw [hP2] at HA HS
        have HP := yz hP2
        have HK0 := yz hq
        clear hP2 hq hqw hm
        generalize fewTo R k = P at *
        clear c0 c1' c2
        go_wp2_with fail
        have HMm := yz (show (wr.ownsRow w.heap.size 111 3 (.slice a3 P.length c3) P.length (flatV P)) by rw [yx HM]; exact yx HO)
        go_loopw [5, 6] (fun sm jj wi => ∃ (j : Nat) (x : Bool), j ≤ m ∧ jj = .int .i64 j ∧ sm = .bool x ∧ Hid (x = amongB P (q1, q2, q3) j) ∧ Hid (wi.ownsRow w.heap.size 111 3 (.slice a3 P.length c3) P.length (flatV P)) ∧ Hid (FewSt w wi w.heap.size (some ⟨b, o, none⟩) R)) (fun _ jj _ => m - (intOf jj).toNat)
        case atStart => exact ⟨0, false, by omega, rfl, rfl, yz rfl, HMm, HST⟩
        case round =>
          clear HMm HO HST
          obtain ⟨j, x, hj, rfl, rfl, HX, HO, HST⟩ := hrel
          obtain ⟨b0, o0, ha, e0, e1, e2⟩ := dir_cells (yx HST).dirs (show k < R.length by rw [yx HN]; exact hkn)
          obtain ⟨rfl, rfl⟩ : b = b0 ∧ o = o0 := by simpa using ha
          rw [yx HK0] at e0 e1 e2
          dsimp only at e0 e1 e2
          by_cases hjm : j < m
          · have hjm2 : (j : Int) < (m : Int) := by omega
            have HX2 := yz (among_succ P (q1, q2, q3) j)
            obtain ⟨hdir, _⟩ := dirs_ownV (yx HO)
            obtain ⟨b4, o4, ha4, g0, g1, g2⟩ := dir_cells hdir (show j < P.length by rw [yx HM]; exact hjm)
            subst ha4
            have hpr := yx HQ j (by rw [yx HM]; exact hjm)
            obtain ⟨⟨p1, p2, p3⟩, hp⟩ : ∃ q, vA P j = q := ⟨_, rfl⟩
            rw [hp] at g0 g1 g2 hpr HX2
            dsimp only at g0 g1 g2 hpr
            have cS := yz (fun W => l02Same_within (p1, p2, p3) (q1, q2, q3) W (right_within hpr) (right_within (yx HW)))
            dsimp only at cS
            generalize sameD (q1, q2, q3) (p1, p2, p3) = y at cS HX2
            have r0 := cell_regrown g0
            have r1 := cell_regrown g1
            have r2 := cell_regrown g2
            have t0 := cell_regrown e0
            have t1 := cell_regrown e1
            have t2 := cell_regrown e2
            clear g0 g1 g2 e0 e1 e2 hp hpr hdir ha
            go_wp2_with fail
            refine wp_region_quiet_below (by kernel_rfl) (by kernel_rfl) ?_
            cases x
            · repeat (go_big_quiet_step (first | (with_reducible exact Calls.regrown_of (yx cS _))))
              refine wpQuiet_nil ?_
              intro _ hw'
              obtain ⟨⟨dq, osq⟩, hw''⟩ := hw'
              subst hw''
              have hx := below_regrown wr dq osq
              generalize grow (redrawn wr dq) osq = W2 at hx ⊢
              have HO2 := yz (own_kept (yx HO) hx)
              have HST2 := yz ((yx HST).kept hx)
              have HX3 : Hid (y = amongB P (q1, q2, q3) (j + 1)) := yz (by rw [yx HX2, ← yx HX]; rfl)
              clear hx cS HO HST HX HX2 r0 r1 r2 t0 t1 t2
              go_wp2_with fail
              go_roundw
              case rel => exact ⟨j + 1, _, by omega, by go_num, rfl, HX3, HO2, HST2⟩
              case measure => simp [intOf] <;> omega
            · repeat (go_big_quiet_step (first | (with_reducible exact Calls.regrown_of (yx cS _))))
              refine wpQuiet_nil ?_
              intro _ hw'
              obtain ⟨⟨dq, osq⟩, hw''⟩ := hw'
              subst hw''
              have hx := below_regrown wr dq osq
              generalize grow (redrawn wr dq) osq = W2 at hx ⊢
              have HO2 := yz (own_kept (yx HO) hx)
              have HST2 := yz ((yx HST).kept hx)
              have HX3 : Hid (true = amongB P (q1, q2, q3) (j + 1)) := yz (by rw [yx HX2, ← yx HX]; rfl)
              clear hx cS HO HST HX HX2 r0 r1 r2 t0 t1 t2
              go_wp2_with fail
              go_roundw
              case rel => exact ⟨j + 1, _, by omega, by go_num, rfl, HX3, HO2, HST2⟩
              case measure => simp [intOf] <;> omega
          · have hjm' : j = m := by omega
            subst hjm'
            have hown0 := yx HO
            rw [yx HM] at hown0
            cases x
            · have Z1 := below1 wr (.cells #[.int .i64 q1, .int .i64 q2, .int .i64 q3] 111)
              have hown := own_kept hown0 Z1
              have ST4 := (yx HST).kept Z1
              have HP2 := yz (yx HA (by rw [yx HM]; exact h6) (by rw [yx HM]; exact (yx HX).symm))
              clear Z1 HO HST HA HS hown0 ha
              go_wp2_with (at_builtin; refine wpList_append_own _ rfl _ _ 42 rfl w.heap.size 111 i0 (.agg #[.int .i64 0, .int .i64 0, .int .i64 0]) 3 24 Tryz.underlying42 hinf hz0 hz1 hz2 rfl (by decide) _ _ _ rfl hown ⟨wr.heap.size, 0, none⟩ 1 1 (flatV [(q1, q2, q3)]) rfl rfl ?d2 (fun u hu => flatV_cell hu) ?d3 ?d4 ?d5 ?_)
              case d2 => first | exact fun j u h => h | exact new_list _ _ _
              case d3 => omega
              case d4 => omega
              case d5 => have := ST4.room; omega
              intro v7 V7 hown7 hgrow7 _
              have HST5 := yz (ST4.row hgrow7 (fun g e => (hown.lt g e).1))
              have HO5 : Hid (V7.ownsRow w.heap.size 111 3 v7 (fewTo R (k + 1)).length (flatV (fewTo R (k + 1)))) := yz (by rw [yx HP, yx HP2, flatV_app, List.length_append, yx HM]; exact hown7)
              clear hown7 hgrow7 hown ST4 e0 e1 e2 HP2
              go_wp2_with fail
              go_roundw
              case rel => exact ⟨k + 1, by omega, by go_num, HO5, HST5⟩
              case measure => simp [intOf] <;> omega
            · have HP2 := yz (yx HS (by rw [yx HM]; exact (yx HX).symm))
              have HO5 : Hid (wr.ownsRow w.heap.size 111 3 (.slice a3 j c3) (fewTo R (k + 1)).length (flatV (fewTo R (k + 1)))) := yz (by rw [yx HP, yx HP2, yx HM]; exact hown0)
              clear HO HA HS hown0 ha HP2
              go_wp2_with fail
              go_roundw
              case rel => exact ⟨k + 1, by omega, by go_num, HO5, HST⟩
              case measure => simp [intOf] <;> omega
      · have h6' : ¬ (m : Int) < 6 := by omega
        have hd : decide ((m : Int) < 6) = false := decide_eq_false h6'
        have hst := few_stop (L := R) (i := k) (by rw [hm]; exact h6) R.length (by rw [yx HN]; exact hk)
        have HFS : Hid (fewS R = fewTo R k) := yz hst
        clear hst hm
        go_wp2_with fail
        go_ret
        refine ⟨⟨_, rfl, ?_⟩, (yx HST).bel⟩
        rw [yx HFS, yx HM]
        exact yx HO
    · have hkn' : k = n := by omega
      subst hkn'
      have hdk : decide ((k : Int) < (k : Int)) = false := decide_eq_false (by omega)
      have HFS : Hid (fewS R = fewTo R k) := yz (by unfold fewS; rw [yx HN])
      clear hm
      go_wp2_with fail
      go_ret
      refine ⟨⟨_, rfl, ?_⟩, (yx HST).bel⟩
      rw [yx HFS, yx HM]
      exact yx HO
end Go.Proofs.YteoonaanoenjiaaGreatDoor
namespace Go.Proofs.YteoonaanoenjiaaGreatDoor
open Go.RowKit Go.Sort
set_option linter.unusedVariables false
theorem Calls.regrown_same {P : Program} {f : FuncId} {args : Array Value} {w : World} {d : Nat} {os : Array Obj} {v : Value}
    (h : Calls P f args (grow (redrawn w d) os) fun e w' => e = .returned v ∧ w' = grow (redrawn w d) os) : Calls P f args (grow (redrawn w d) os) fun e w'' => e = .returned v ∧ ∃ p : Regrown, w'' = grow (redrawn w p.d) p.os :=
  h.mono fun _ _ ⟨he, hm⟩ => ⟨he, ⟨d, os⟩, hm⟩
set_option maxHeartbeats 2000000 in
set_option maxRecDepth 100000 in
theorem cosCmp_any (a1 a2 a3 b1 b2 b3 c1 c2 c3 d1 d2 d3 : Int) (w : World) :
    Calls Tryz.prog 226 #[.agg #[.int .i64 a1, .int .i64 a2, .int .i64 a3], .agg #[.int .i64 b1, .int .i64 b2, .int .i64 b3], .agg #[.int .i64 c1, .int .i64 c2, .int .i64 c3], .agg #[.int .i64 d1, .int .i64 d2, .int .i64 d3]] w fun e w' => e = .returned (.int .i64 (cosI a1 a2 a3 b1 b2 b3 c1 c2 c3 d1 d2 d3)) ∧ Below w.heap.size w w' := by
  go_enter Tryz.func226, Tryz.ntmps226
  go_wp2_with fail
  refine (isWide_any a1 a2 a3 _).mono ?_
  rintro e w1 ⟨rfl, hB1⟩
  have hB : Below w.heap.size w w1 := below_call (below4 _ _ _ _ _) hB1
  have hs : w.heap.size + 4 ≤ w1.heap.size := by have := hB1.size; simpa [Nat.add_assoc] using this
  have va : VecAt w1 w.heap.size a1 a2 a3 := ((((by simpa using vecAt_new w a1 a2 a3 _ : VecAt _ w.heap.size a1 a2 a3).alloc (by simp <;> omega) _).alloc (by simp <;> omega) _).alloc (by simp <;> omega) _).kept (by simp <;> omega) hB1
  have vb : VecAt w1 (w.heap.size + 1) b1 b2 b3 := (((by simpa using vecAt_new (w.alloc _) b1 b2 b3 _ : VecAt _ (w.heap.size + 1) b1 b2 b3).alloc (by simp <;> omega) _).alloc (by simp <;> omega) _).kept (by simp <;> omega) hB1
  have vc : VecAt w1 (w.heap.size + 1 + 1) c1 c2 c3 := ((by simpa using vecAt_new ((w.alloc _).alloc _) c1 c2 c3 _ : VecAt _ (w.heap.size + 1 + 1) c1 c2 c3).alloc (by simp <;> omega) _).kept (by simp <;> omega) hB1
  have vd : VecAt w1 (w.heap.size + 1 + 1 + 1) d1 d2 d3 := (by simpa using vecAt_new (((w.alloc _).alloc _).alloc _) d1 d2 d3 _ : VecAt _ (w.heap.size + 1 + 1 + 1) d1 d2 d3).kept (by simp <;> omega) hB1
  clear hB1
  have hva := va
  obtain ⟨ca0, ca1, ca2⟩ := va
  have hvb := vb
  obtain ⟨cb0, cb1, cb2⟩ := vb
  have hvc := vc
  obtain ⟨cc0, cc1, cc2⟩ := vc
  have hvd := vd
  obtain ⟨cd0, cd1, cd2⟩ := vd
  cases ha : wideB a1 a2 a3
  · go_wp2_with fail
    go_ret
    exact ⟨by simp [cosI, ha], hB⟩
  · go_wp2_with fail
    refine (isWide_any b1 b2 b3 _).mono ?_
    rintro e w2 ⟨rfl, hB2⟩
    have va := hva.kept (by omega) hB2
    have vb := hvb.kept (by omega) hB2
    have vc := hvc.kept (by omega) hB2
    have vd := hvd.kept (by omega) hB2
    replace hs : w.heap.size + 4 ≤ w2.heap.size := by have := hB2.size; omega
    replace hB : Below w.heap.size w w2 := below_call hB hB2
    clear hva ca0 ca1 ca2 hvb cb0 cb1 cb2 hvc cc0 cc1 cc2 hvd cd0 cd1 cd2
    clear hB2
    have hva := va
    obtain ⟨ca0, ca1, ca2⟩ := va
    have hvb := vb
    obtain ⟨cb0, cb1, cb2⟩ := vb
    have hvc := vc
    obtain ⟨cc0, cc1, cc2⟩ := vc
    have hvd := vd
    obtain ⟨cd0, cd1, cd2⟩ := vd
    cases hb : wideB b1 b2 b3
    · go_wp2_with fail
      go_ret
      exact ⟨by simp [cosI, hb], hB⟩
    · go_wp2_with fail
      refine (isSmall_any c1 c2 c3 _).mono ?_
      rintro e w3 ⟨rfl, hB3⟩
      have va := hva.kept (by omega) hB3
      have vb := hvb.kept (by omega) hB3
      have vc := hvc.kept (by omega) hB3
      have vd := hvd.kept (by omega) hB3
      replace hs : w.heap.size + 4 ≤ w3.heap.size := by have := hB3.size; omega
      replace hB : Below w.heap.size w w3 := below_call hB hB3
      clear hva ca0 ca1 ca2 hvb cb0 cb1 cb2 hvc cc0 cc1 cc2 hvd cd0 cd1 cd2
      clear hB3
      have hva := va
      obtain ⟨ca0, ca1, ca2⟩ := va
      have hvb := vb
      obtain ⟨cb0, cb1, cb2⟩ := vb
      have hvc := vc
      obtain ⟨cc0, cc1, cc2⟩ := vc
      have hvd := vd
      obtain ⟨cd0, cd1, cd2⟩ := vd
      cases hc : smallB c1 c2 c3
      · go_wp2_with fail
        go_ret
        exact ⟨by simp [cosI, hc], hB⟩
      · go_wp2_with fail
        refine (isSmall_any d1 d2 d3 _).mono ?_
        rintro e w4 ⟨rfl, hB4⟩
        have va := hva.kept (by omega) hB4
        have vb := hvb.kept (by omega) hB4
        have vc := hvc.kept (by omega) hB4
        have vd := hvd.kept (by omega) hB4
        replace hs : w.heap.size + 4 ≤ w4.heap.size := by have := hB4.size; omega
        replace hB : Below w.heap.size w w4 := below_call hB hB4
        clear hva ca0 ca1 ca2 hvb cb0 cb1 cb2 hvc cc0 cc1 cc2 hvd cd0 cd1 cd2
        clear hB4
        have hva := va
        obtain ⟨ca0, ca1, ca2⟩ := va
        have hvb := vb
        obtain ⟨cb0, cb1, cb2⟩ := vb
        have hvc := vc
        obtain ⟨cc0, cc1, cc2⟩ := vc
        have hvd := vd
        obtain ⟨cd0, cd1, cd2⟩ := vd
        cases hd : smallB d1 d2 d3
        · go_wp2_with fail
          go_ret
          exact ⟨by simp [cosI, hd], hB⟩
        · go_wp2_with fail
          have HD := yz (cos_eq ha hb hc hd)
          have ka0 := cell_regrown ca0
          have ka1 := cell_regrown ca1
          have ka2 := cell_regrown ca2
          have kb0 := cell_regrown cb0
          have kb1 := cell_regrown cb1
          have kb2 := cell_regrown cb2
          have kc0 := cell_regrown cc0
          have kc1 := cell_regrown cc1
          have kc2 := cell_regrown cc2
          have kd0 := cell_regrown cd0
          have kd1 := cell_regrown cd1
          have kd2 := cell_regrown cd2
          refine wp_region_quiet_below (by kernel_rfl) (by kernel_rfl) ?_
          repeat (quiet_step (first | exact Calls.regrown_of (dot_any _ _ _ _ _ _ _) | exact Calls.regrown_same (signed_any _ _) | exact Calls.regrown_of (lengths_any _ _ _ _ _ _ _)))
          refine wpQuiet_nil ?_
          intro _ hw'
          obtain ⟨⟨dq, osq⟩, hw''⟩ := hw'
          subst hw''
          have hb' := below_regrown w4 dq osq
          replace hB := below_call hB hb'
          have va := hva.kept (by omega) hb'
          have vb := hvb.kept (by omega) hb'
          have vc := hvc.kept (by omega) hb'
          have vd := hvd.kept (by omega) hb'
          clear ca0 ka0 ca1 ka1 ca2 ka2 cb0 kb0 cb1 kb1 cb2 kb2 cc0 kc0 cc1 kc1 cc2 kc2 cd0 kd0 cd1 kd1 cd2 kd2
          generalize grow (redrawn w4 dq) osq = w5 at hB hb' va vb vc vd ⊢
          obtain ⟨ca0, ca1, ca2⟩ := va
          obtain ⟨cb0, cb1, cb2⟩ := vb
          obtain ⟨cc0, cc1, cc2⟩ := vc
          obtain ⟨cd0, cd1, cd2⟩ := vd
          clear hb' hva hvb hvc hvd
          go_wp2_with fail
          have ka0 := cell_regrown ca0
          have ka1 := cell_regrown ca1
          have ka2 := cell_regrown ca2
          have kb0 := cell_regrown cb0
          have kb1 := cell_regrown cb1
          have kb2 := cell_regrown cb2
          have kc0 := cell_regrown cc0
          have kc1 := cell_regrown cc1
          have kc2 := cell_regrown cc2
          have kd0 := cell_regrown cd0
          have kd1 := cell_regrown cd1
          have kd2 := cell_regrown cd2
          refine wp_region_quiet_below (by kernel_rfl) (by kernel_rfl) ?_
          repeat (quiet_step (first | exact Calls.regrown_of (dot_any _ _ _ _ _ _ _) | exact Calls.regrown_same (signed_any _ _) | exact Calls.regrown_of (lengths_any _ _ _ _ _ _ _)))
          refine wpQuiet_nil ?_
          intro _ hw'
          obtain ⟨⟨dq, osq⟩, hw''⟩ := hw'
          subst hw''
          replace hB := below_call hB (below_regrown w5 dq osq)
          clear ca0 ka0 ca1 ka1 ca2 ka2 cb0 kb0 cb1 kb1 cb2 kb2 cc0 kc0 cc1 kc1 cc2 kc2 cd0 kd0 cd1 kd1 cd2 kd2
          go_wp2_with fail
          refine (order_any _ _ _).mono ?_
          rintro e w7 ⟨rfl, rfl⟩
          go_wp2_with fail
          go_ret
          exact ⟨by rw [yx HD]; rfl, hB⟩
theorem VecAt.in {w : World} {b : Nat} {x y z : Int} (h : VecAt w b x y z) : b < w.heap.size := World.block_lt_of_cell? w _ h.1
set_option maxRecDepth 100000 in
theorem l02Sign_any (n : Int) (w : World) :
    Calls Tryz.prog 215 #[.int .i64 n] w fun e w' => e = .returned (.int .i64 (sgn n)) ∧ w' = w := by
  by_cases h : n < 0
  · have HS := yz (show sgn n = -1 by unfold sgn; rw [if_pos h])
    go_enter Tryz.func215, Tryz.ntmps215
    go_wp2
    go_ret
    exact ⟨by rw [yx HS]; rfl, rfl⟩
  · by_cases h2 : 0 < n
    · have HS := yz (show sgn n = 1 by unfold sgn; rw [if_neg h, if_pos h2])
      go_enter Tryz.func215, Tryz.ntmps215
      go_wp2
      go_ret
      exact ⟨by rw [yx HS]; rfl, rfl⟩
    · have HS := yz (show sgn n = 0 by unfold sgn; rw [if_neg h, if_neg h2])
      go_enter Tryz.func215, Tryz.ntmps215
      go_wp2
      go_ret
      exact ⟨by rw [yx HS]; rfl, rfl⟩
set_option maxRecDepth 100000 in
theorem l02Cos_any (a1 a2 a3 b1 b2 b3 c1 c2 c3 d1 d2 d3 : Int) (w : World) :
    Calls Tryz.prog 214 #[.agg #[.int .i64 a1, .int .i64 a2, .int .i64 a3], .agg #[.int .i64 b1, .int .i64 b2, .int .i64 b3], .agg #[.int .i64 c1, .int .i64 c2, .int .i64 c3], .agg #[.int .i64 d1, .int .i64 d2, .int .i64 d3]] w fun e w' => e = .returned (.int .i64 (cosS (dotW a1 a2 a3 b1 b2 b3) (dotW c1 c2 c3 d1 d2 d3) (wrap64 (wrap64 (dotW a1 a2 a3 b1 b2 b3 * dotW a1 a2 a3 b1 b2 b3) * wrap64 (dotW c1 c2 c3 c1 c2 c3 * dotW d1 d2 d3 d1 d2 d3))) (wrap64 (wrap64 (dotW c1 c2 c3 d1 d2 d3 * dotW c1 c2 c3 d1 d2 d3) * wrap64 (dotW a1 a2 a3 a1 a2 a3 * dotW b1 b2 b3 b1 b2 b3))))) ∧ Below w.heap.size w w' := by
  go_enter Tryz.func214, Tryz.ntmps214
  go_wp2_with fail
  have va : VecAt ((((w.alloc (.cells #[.int .i64 a1, .int .i64 a2, .int .i64 a3] 111)).alloc (.cells #[.int .i64 b1, .int .i64 b2, .int .i64 b3] 111)).alloc (.cells #[.int .i64 c1, .int .i64 c2, .int .i64 c3] 111)).alloc (.cells #[.int .i64 d1, .int .i64 d2, .int .i64 d3] 111)) w.heap.size a1 a2 a3 := ((((by simpa using vecAt_new w a1 a2 a3 111 : VecAt (w.alloc (.cells #[.int .i64 a1, .int .i64 a2, .int .i64 a3] 111)) w.heap.size a1 a2 a3).alloc (by simp <;> omega) _).alloc (by simp <;> omega) _).alloc (by simp <;> omega) _)
  have vb : VecAt ((((w.alloc (.cells #[.int .i64 a1, .int .i64 a2, .int .i64 a3] 111)).alloc (.cells #[.int .i64 b1, .int .i64 b2, .int .i64 b3] 111)).alloc (.cells #[.int .i64 c1, .int .i64 c2, .int .i64 c3] 111)).alloc (.cells #[.int .i64 d1, .int .i64 d2, .int .i64 d3] 111)) (w.heap.size + 1) b1 b2 b3 := (((by simpa using vecAt_new (w.alloc (.cells #[.int .i64 a1, .int .i64 a2, .int .i64 a3] 111)) b1 b2 b3 111 : VecAt ((w.alloc (.cells #[.int .i64 a1, .int .i64 a2, .int .i64 a3] 111)).alloc (.cells #[.int .i64 b1, .int .i64 b2, .int .i64 b3] 111)) (w.heap.size + 1) b1 b2 b3).alloc (by simp <;> omega) _).alloc (by simp <;> omega) _)
  have vc : VecAt ((((w.alloc (.cells #[.int .i64 a1, .int .i64 a2, .int .i64 a3] 111)).alloc (.cells #[.int .i64 b1, .int .i64 b2, .int .i64 b3] 111)).alloc (.cells #[.int .i64 c1, .int .i64 c2, .int .i64 c3] 111)).alloc (.cells #[.int .i64 d1, .int .i64 d2, .int .i64 d3] 111)) (w.heap.size + 1 + 1) c1 c2 c3 := ((by simpa using vecAt_new ((w.alloc (.cells #[.int .i64 a1, .int .i64 a2, .int .i64 a3] 111)).alloc (.cells #[.int .i64 b1, .int .i64 b2, .int .i64 b3] 111)) c1 c2 c3 111 : VecAt (((w.alloc (.cells #[.int .i64 a1, .int .i64 a2, .int .i64 a3] 111)).alloc (.cells #[.int .i64 b1, .int .i64 b2, .int .i64 b3] 111)).alloc (.cells #[.int .i64 c1, .int .i64 c2, .int .i64 c3] 111)) (w.heap.size + 1 + 1) c1 c2 c3).alloc (by simp <;> omega) _)
  have vd : VecAt ((((w.alloc (.cells #[.int .i64 a1, .int .i64 a2, .int .i64 a3] 111)).alloc (.cells #[.int .i64 b1, .int .i64 b2, .int .i64 b3] 111)).alloc (.cells #[.int .i64 c1, .int .i64 c2, .int .i64 c3] 111)).alloc (.cells #[.int .i64 d1, .int .i64 d2, .int .i64 d3] 111)) (w.heap.size + 1 + 1 + 1) d1 d2 d3 := (by simpa using vecAt_new (((w.alloc (.cells #[.int .i64 a1, .int .i64 a2, .int .i64 a3] 111)).alloc (.cells #[.int .i64 b1, .int .i64 b2, .int .i64 b3] 111)).alloc (.cells #[.int .i64 c1, .int .i64 c2, .int .i64 c3] 111)) d1 d2 d3 111 : VecAt ((((w.alloc (.cells #[.int .i64 a1, .int .i64 a2, .int .i64 a3] 111)).alloc (.cells #[.int .i64 b1, .int .i64 b2, .int .i64 b3] 111)).alloc (.cells #[.int .i64 c1, .int .i64 c2, .int .i64 c3] 111)).alloc (.cells #[.int .i64 d1, .int .i64 d2, .int .i64 d3] 111)) (w.heap.size + 1 + 1 + 1) d1 d2 d3)
  have hB : Below w.heap.size w ((((w.alloc (.cells #[.int .i64 a1, .int .i64 a2, .int .i64 a3] 111)).alloc (.cells #[.int .i64 b1, .int .i64 b2, .int .i64 b3] 111)).alloc (.cells #[.int .i64 c1, .int .i64 c2, .int .i64 c3] 111)).alloc (.cells #[.int .i64 d1, .int .i64 d2, .int .i64 d3] 111)) := below4 _ _ _ _ _
  generalize ((((w.alloc (.cells #[.int .i64 a1, .int .i64 a2, .int .i64 a3] 111)).alloc (.cells #[.int .i64 b1, .int .i64 b2, .int .i64 b3] 111)).alloc (.cells #[.int .i64 c1, .int .i64 c2, .int .i64 c3] 111)).alloc (.cells #[.int .i64 d1, .int .i64 d2, .int .i64 d3] 111)) = w1 at va vb vc vd hB ⊢
  have ha := va
  have hb := vb
  have hc := vc
  have hd := vd
  obtain ⟨ca0, ca1, ca2⟩ := va
  obtain ⟨cb0, cb1, cb2⟩ := vb
  obtain ⟨cc0, cc1, cc2⟩ := vc
  obtain ⟨cd0, cd1, cd2⟩ := vd
  refine (l02Dot_any a1 a2 a3 b1 b2 b3 _).mono ?_
  rintro e w2 ⟨rfl, hx⟩
  have va := ha.kept (VecAt.in ha) hx
  have vb := hb.kept (VecAt.in hb) hx
  have vc := hc.kept (VecAt.in hc) hx
  have vd := hd.kept (VecAt.in hd) hx
  replace hB := below_call hB hx
  clear ca0 ca1 ca2 cb0 cb1 cb2 cc0 cc1 cc2 cd0 cd1 cd2 ha hb hc hd hx
  have ha := va
  have hb := vb
  have hc := vc
  have hd := vd
  obtain ⟨ca0, ca1, ca2⟩ := va
  obtain ⟨cb0, cb1, cb2⟩ := vb
  obtain ⟨cc0, cc1, cc2⟩ := vc
  obtain ⟨cd0, cd1, cd2⟩ := vd
  go_wp2_with fail
  refine (l02Dot_any c1 c2 c3 d1 d2 d3 _).mono ?_
  rintro e w3 ⟨rfl, hx⟩
  have va := ha.kept (VecAt.in ha) hx
  have vb := hb.kept (VecAt.in hb) hx
  have vc := hc.kept (VecAt.in hc) hx
  have vd := hd.kept (VecAt.in hd) hx
  replace hB := below_call hB hx
  clear ca0 ca1 ca2 cb0 cb1 cb2 cc0 cc1 cc2 cd0 cd1 cd2 ha hb hc hd hx
  have ha := va
  have hb := vb
  have hc := vc
  have hd := vd
  obtain ⟨ca0, ca1, ca2⟩ := va
  obtain ⟨cb0, cb1, cb2⟩ := vb
  obtain ⟨cc0, cc1, cc2⟩ := vc
  obtain ⟨cd0, cd1, cd2⟩ := vd
  generalize hxe : dotW a1 a2 a3 b1 b2 b3 = x
  generalize hye : dotW c1 c2 c3 d1 d2 d3 = y
  have HX := yz hxe
  have HY := yz hye
  clear hxe hye
  go_wp2_with fail
  refine (l02Sign_any x _).mono ?_
  rintro e w3 ⟨rfl, rfl⟩
  go_wp2_with fail
  refine (l02Sign_any y _).mono ?_
  rintro e w3 ⟨rfl, rfl⟩
  by_cases hs : sgn x = sgn y
  · have hse : (sgn x == sgn y) = true := by simp [hs]
    go_wp2_with fail
    have kc0 := cell_regrown cc0
    have kc1 := cell_regrown cc1
    have kc2 := cell_regrown cc2
    have kd0 := cell_regrown cd0
    have kd1 := cell_regrown cd1
    have kd2 := cell_regrown cd2
    refine wp_region_quiet_below (by kernel_rfl) (by kernel_rfl) ?_
    repeat (quiet_step (first | exact Calls.regrown_of (l02Dot_any _ _ _ _ _ _ _) | fail))
    refine wpQuiet_nil ?_
    intro _ hw'
    obtain ⟨⟨dq, osq⟩, hw''⟩ := hw'
    subst hw''
    have hx := below_regrown w3 dq osq
    generalize grow (redrawn w3 dq) osq = w4 at hx ⊢
    clear kc0 kc1 kc2 kd0 kd1 kd2
    have va := ha.kept (VecAt.in ha) hx
    have vb := hb.kept (VecAt.in hb) hx
    have vc := hc.kept (VecAt.in hc) hx
    have vd := hd.kept (VecAt.in hd) hx
    replace hB := below_call hB hx
    clear ca0 ca1 ca2 cb0 cb1 cb2 cc0 cc1 cc2 cd0 cd1 cd2 ha hb hc hd hx
    have ha := va
    have hb := vb
    have hc := vc
    have hd := vd
    obtain ⟨ca0, ca1, ca2⟩ := va
    obtain ⟨cb0, cb1, cb2⟩ := vb
    obtain ⟨cc0, cc1, cc2⟩ := vc
    obtain ⟨cd0, cd1, cd2⟩ := vd
    go_wp2_with fail
    have ka0 := cell_regrown ca0
    have ka1 := cell_regrown ca1
    have ka2 := cell_regrown ca2
    have kb0 := cell_regrown cb0
    have kb1 := cell_regrown cb1
    have kb2 := cell_regrown cb2
    refine wp_region_quiet_below (by kernel_rfl) (by kernel_rfl) ?_
    repeat (quiet_step (first | exact Calls.regrown_of (l02Dot_any _ _ _ _ _ _ _) | fail))
    refine wpQuiet_nil ?_
    intro _ hw'
    obtain ⟨⟨dq, osq⟩, hw''⟩ := hw'
    subst hw''
    have hx := below_regrown w4 dq osq
    generalize grow (redrawn w4 dq) osq = w5 at hx ⊢
    clear ka0 ka1 ka2 kb0 kb1 kb2
    have va := ha.kept (VecAt.in ha) hx
    have vb := hb.kept (VecAt.in hb) hx
    have vc := hc.kept (VecAt.in hc) hx
    have vd := hd.kept (VecAt.in hd) hx
    replace hB := below_call hB hx
    clear ca0 ca1 ca2 cb0 cb1 cb2 cc0 cc1 cc2 cd0 cd1 cd2 ha hb hc hd hx
    have ha := va
    have hb := vb
    have hc := vc
    have hd := vd
    obtain ⟨ca0, ca1, ca2⟩ := va
    obtain ⟨cb0, cb1, cb2⟩ := vb
    obtain ⟨cc0, cc1, cc2⟩ := vc
    obtain ⟨cd0, cd1, cd2⟩ := vd
    clear ha hb hc hd ca0 ca1 ca2 cb0 cb1 cb2 cc0 cc1 cc2 cd0 cd1 cd2
    simp only [Go.IntWalk.i64_left]
    generalize hpe : wrap64 (wrap64 (x * x) * wrap64 (dotW c1 c2 c3 c1 c2 c3 * dotW d1 d2 d3 d1 d2 d3)) = p
    generalize hqe : wrap64 (wrap64 (y * y) * wrap64 (dotW a1 a2 a3 a1 a2 a3 * dotW b1 b2 b3 b1 b2 b3)) = q
    have HP := yz hpe
    have HQ := yz hqe
    have HS := yz hs
    clear hpe hqe
    by_cases h1 : p < q
    · have HE := yz (show cosS x y p q = wrap64 (-sgn x) by unfold cosS; rw [if_neg (by simp [hs]), if_pos h1])
      clear hs hse
      go_wp2_with fail
      refine (l02Sign_any x _).mono ?_
      rintro e w5 ⟨rfl, rfl⟩
      go_wp2_with fail
      go_ret
      exact ⟨by rw [yx HX, yx HY, yx HP, yx HQ, yx HE]; rfl, hB⟩
    · by_cases h2 : q < p
      · have HE := yz (show cosS x y p q = sgn x by unfold cosS; rw [if_neg (by simp [hs]), if_neg h1, if_pos h2])
        clear hs hse
        go_wp2_with fail
        refine (l02Sign_any x _).mono ?_
        rintro e w5 ⟨rfl, rfl⟩
        go_wp2_with fail
        go_ret
        exact ⟨by rw [yx HX, yx HY, yx HP, yx HQ, yx HE]; rfl, hB⟩
      · have HE := yz (show cosS x y p q = 0 by unfold cosS; rw [if_neg (by simp [hs]), if_neg h1, if_neg h2])
        clear hs hse
        go_wp2_with fail
        go_ret
        exact ⟨by rw [yx HX, yx HY, yx HP, yx HQ, yx HE]; rfl, hB⟩
  · have hse : (sgn x == sgn y) = false := by simp [hs]
    go_wp2_with fail
    refine (l02Sign_any x _).mono ?_
    rintro e w3 ⟨rfl, rfl⟩
    go_wp2_with fail
    refine (l02Sign_any y _).mono ?_
    rintro e w3 ⟨rfl, rfl⟩
    go_wp2_with fail
    refine (l02Sign_any _ _).mono ?_
    rintro e w3 ⟨rfl, rfl⟩
    go_wp2_with fail
    go_ret
    exact ⟨by unfold cosS; rw [yx HX, yx HY, if_pos hs]; rfl, hB⟩
theorem sq_fits {p q r P Q : Int} (h1 : -P ≤ p ∧ p ≤ P) (h2 : -Q ≤ q ∧ q ≤ Q) (h3 : -Q ≤ r ∧ r ≤ Q) (k1 : P * P ≤ 9223372036854775807) (k3 : Q * Q ≤ 9223372036854775807) (k4 : (P * P) * (Q * Q) ≤ 9223372036854775807) :
    wrap64 (wrap64 (p * p) * wrap64 (q * r)) = p * p * (q * r) := by
  have m1 := mulB h1 h1
  have m2 := mulB h2 h3
  have m3 := mulB m1 m2
  rw [wrap_id (n := p * p) (by omega) (by omega), wrap_id (n := q * r) (by omega) (by omega), wrap_id (by omega) (by omega)]
theorem cos_eq2 {a1 a2 a3 b1 b2 b3 c1 c2 c3 d1 d2 d3 : Int} (ha : wideB a1 a2 a3 = true) (hb : wideB b1 b2 b3 = true) (hc : smallB c1 c2 c3 = true) (hd : smallB d1 d2 d3 = true) :
    cosI a1 a2 a3 b1 b2 b3 c1 c2 c3 d1 d2 d3 = cosS (dotW a1 a2 a3 b1 b2 b3) (dotW c1 c2 c3 d1 d2 d3) (wrap64 (wrap64 (dotW a1 a2 a3 b1 b2 b3 * dotW a1 a2 a3 b1 b2 b3) * wrap64 (dotW c1 c2 c3 c1 c2 c3 * dotW d1 d2 d3 d1 d2 d3))) (wrap64 (wrap64 (dotW c1 c2 c3 d1 d2 d3 * dotW c1 c2 c3 d1 d2 d3) * wrap64 (dotW a1 a2 a3 a1 a2 a3 * dotW b1 b2 b3 b1 b2 b3))) := by
  have wa := (wideB_iff ha).2
  have wb := (wideB_iff hb).2
  have wc := (smallB_iff hc).2
  have wd := (smallB_iff hd).2
  have pa := sq_pos (rightB_iff.1 (wideB_iff ha).1).2
  have pb := sq_pos (rightB_iff.1 (wideB_iff hb).1).2
  have pc := sq_pos (rightB_iff.1 (smallB_iff hc).1).2
  have pd := sq_pos (rightB_iff.1 (smallB_iff hd).1).2
  unfold cosI
  rw [ha, hb, hc, hd, if_pos (by rfl)]
  rw [dotW_eq wa wb (by omega), dotW_eq wc wc (by omega), dotW_eq wd wd (by omega), dotW_eq wc wd (by omega), dotW_eq wa wa (by omega), dotW_eq wb wb (by omega)]
  have x1 := dot_bound wa wb
  have x2 := dot_bound wc wc
  have x3 := dot_bound wd wd
  have x4 := dot_bound wc wd
  have x5 := dot_bound wa wa
  have x6 := dot_bound wb wb
  rw [sq_fits (P := 9720000) (Q := 300) (by omega) (by omega) (by omega) (by omega) (by omega) (by omega), sq_fits (P := 300) (Q := 9720000) (by omega) (by omega) (by omega) (by omega) (by omega) (by omega)]
  exact (cos_spec (Int.mul_pos pc pd) (Int.mul_pos pa pb)).symm
def FreeS (w : World) (b o : Nat) : Prop := w.frozen? ⟨b, o, none⟩ = false ∧ w.frozen? ⟨b, o + 1, none⟩ = false ∧ w.frozen? ⟨b, o + 2, none⟩ = false ∧ w.frozen? ⟨b, o + 3, none⟩ = false
theorem FreeS.kept {w w' : World} {b o : Nat} (h : FreeS w b o) (hb : b < w.heap.size) (hB : Below w.heap.size w w') : FreeS w' b o := by
  obtain ⟨h0, h1, h2, h3⟩ := h
  exact ⟨by rw [hB.frozen (p := ⟨b, o, none⟩) hb]; exact h0, by rw [hB.frozen (p := ⟨b, o + 1, none⟩) hb]; exact h1, by rw [hB.frozen (p := ⟨b, o + 2, none⟩) hb]; exact h2, by rw [hB.frozen (p := ⟨b, o + 3, none⟩) hb]; exact h3⟩
theorem freeS_new (w : World) (s : St) (t : TypeId) : FreeS (w.alloc (.cells #[.int .i64 s.1, .int .i64 s.2.1, .int .i64 s.2.2.1, .int .i64 s.2.2.2] t)) w.heap.size 0 := by
  refine ⟨?_, ?_, ?_, ?_⟩ <;> simp
set_option maxRecDepth 100000 in
theorem szStarS_any (a : Option Addr) (n c : Nat) (w : World) (hn : n ≤ 1048576) :
    Calls Tryz.prog 23 #[.slice a n c, .int .i64 1048576] w fun e w' => e = .returned (.int .i64 (1048576 - (n : Int))) ∧ w' = w := by
  have h : ¬ (1048576 : Int) - (n : Int) < 0 := by omega
  go_enter Tryz.func23, Tryz.ntmps23
  go_wp2
  go_ret
  exact ⟨rfl, rfl⟩
set_option maxRecDepth 100000 in
theorem szStarS_big (a : Option Addr) (n c : Nat) (w : World) (hn : 1048576 < n) (hm : n ≤ 9223372036854775807) :
    Calls Tryz.prog 23 #[.slice a n c, .int .i64 1048576] w fun e w' => e = .returned (.int .i64 (-1)) ∧ w' = w := by
  have h : (1048576 : Int) - (n : Int) < 0 := by omega
  go_enter Tryz.func23, Tryz.ntmps23
  go_wp2
  go_ret
  exact ⟨rfl, rfl⟩
set_option maxRecDepth 100000 in
theorem toVec_any (x y z : Int) (w : World) :
    Calls Tryz.prog 68 #[.agg #[.int .i64 x, .int .i64 y, .int .i64 z]] w fun e w' => e = .returned (.agg #[.int .i64 x, .int .i64 y, .int .i64 z]) ∧ Below w.heap.size w w' := by
  go_enter Tryz.func68, Tryz.ntmps68
  go_wp2
  exact bodyPost_ret (v := .agg #[.int .i64 x, .int .i64 y, .int .i64 z]) (by simp [results, Tryz.results68, go_sem]) rfl ⟨rfl, below3 _ _ _ _⟩
set_option maxRecDepth 100000 in
theorem toStar_any (i x y z : Int) (w : World) :
    Calls Tryz.prog 67 #[.agg #[.int .i64 i, .int .i64 x, .int .i64 y, .int .i64 z]] w fun e w' => e = .returned (.agg #[.int .i64 i, .int .i64 x, .int .i64 y, .int .i64 z]) ∧ Below w.heap.size w w' := by
  go_enter Tryz.func67, Tryz.ntmps67
  go_wp2_with fail
  refine (toVec_any x y z _).mono ?_
  rintro e w1 ⟨rfl, hx⟩
  have hB : Below w.heap.size w w1 := below_call (below3 _ _ _ _) hx
  have sa : StarAt w1 (w.heap.size + 1 + 1) 0 (i, 0, 0, 0) := (by simpa using starAt_new ((w.alloc _).alloc _) (i, 0, 0, 0) _ : StarAt _ (w.heap.size + 1 + 1) 0 (i, 0, 0, 0)).kept (by simp) hx
  have fa : FreeS w1 (w.heap.size + 1 + 1) 0 := (by simpa using freeS_new ((w.alloc _).alloc _) (i, 0, 0, 0) _ : FreeS _ (w.heap.size + 1 + 1) 0).kept (by simp) hx
  have sr : StarAt w1 (w.heap.size + 1) 0 (0, 0, 0, 0) := ((by simpa using starAt_new (w.alloc _) (0, 0, 0, 0) _ : StarAt _ (w.heap.size + 1) 0 (0, 0, 0, 0)).kept (by simp) (below1 _ _)).kept (by simp) hx
  have fr : FreeS w1 (w.heap.size + 1) 0 := ((by simpa using freeS_new (w.alloc _) (0, 0, 0, 0) _ : FreeS _ (w.heap.size + 1) 0).kept (by simp) (below1 _ _)).kept (by simp) hx
  clear hx
  obtain ⟨c0, c1, c2, c3⟩ := sa
  obtain ⟨f0, f1, f2, f3⟩ := fa
  obtain ⟨d0, d1, d2, d3⟩ := sr
  obtain ⟨g0, g1, g2, g3⟩ := fr
  simp only [Nat.zero_add] at c0 c1 c2 c3 f0 f1 f2 f3 d0 d1 d2 d3 g0 g1 g2 g3
  go_wp2_with fail
  exact bodyPost_ret (v := .agg #[.int .i64 i, .int .i64 x, .int .i64 y, .int .i64 z]) (by simp [results, Tryz.results67, go_sem, d0, d1, d2, d3]) rfl ⟨rfl, by
    repeat (refine Below.setCell ?_ (by simp; try omega) _)
    exact hB⟩
def OwnS (w : World) (b n : Nat) (L : List St) (k : Nat) : Prop := ∃ cur : Array Value, w.heap[b]? = some (.cells cur 113 (0, 0)) ∧ cur.size = n * 4 ∧
  ∀ j, j < k → cur[j * 4]? = some (.int .i64 (stA L j).1) ∧ cur[j * 4 + 1]? = some (.int .i64 (stA L j).2.1) ∧ cur[j * 4 + 2]? = some (.int .i64 (stA L j).2.2.1) ∧ cur[j * 4 + 3]? = some (.int .i64 (stA L j).2.2.2)
theorem OwnS.lt {w : World} {b n k : Nat} {L : List St} (h : OwnS w b n L k) : b < w.heap.size := by
  obtain ⟨cur, hc, _⟩ := h
  exact (Array.getElem?_eq_some_iff.1 hc).1
theorem OwnS.kept {w w' : World} {b n k : Nat} {L : List St} (h : OwnS w b n L k) (hB : Below w.heap.size w w') : OwnS w' b n L k := by
  have hl := h.lt
  obtain ⟨cur, hc, r⟩ := h
  exact ⟨cur, by rw [hB.block b hl]; exact hc, r⟩
theorem OwnS.stars {w : World} {b n k : Nat} {L : List St} (h : OwnS w b n L k) : Stars w (some ⟨b, 0, none⟩) L k := by
  have hl := h.lt
  obtain ⟨cur, hc, _, hs⟩ := h
  refine .inr ⟨b, 0, rfl, hl, fun i hi => ?_⟩
  obtain ⟨h0, h1, h2, h3⟩ := hs i hi
  rw [Nat.zero_add]
  exact ⟨by rw [cell_of_row w b _ cur _ _ hc]; exact h0, by rw [cell_of_row w b _ cur _ _ hc]; exact h1, by rw [cell_of_row w b _ cur _ _ hc]; exact h2, by rw [cell_of_row w b _ cur _ _ hc]; exact h3⟩
theorem OwnS.old {w : World} {b n k i : Nat} {L : List St} (h : OwnS w b n L k) (hi : i < n * 4) : ∃ v, w.cell? ⟨b, i, none⟩ = some v := by
  obtain ⟨cur, hc, hn, _⟩ := h
  rw [cell_of_row w b _ cur _ _ hc]
  exact ⟨cur[i], Array.getElem?_eq_getElem (by omega)⟩
theorem OwnS.free {w : World} {b n k : Nat} {L : List St} (h : OwnS w b n L k) (i : Nat) : w.frozen? ⟨b, i, none⟩ = false := by
  obtain ⟨cur, hc, _⟩ := h
  exact frozen_of_row w b i cur _ hc
def set4 (w : World) (b o : Nat) (s : St) : World := (((w.setCell ⟨b, o, none⟩ (.int .i64 s.1)).setCell ⟨b, o + 1, none⟩ (.int .i64 s.2.1)).setCell ⟨b, o + 2, none⟩ (.int .i64 s.2.2.1)).setCell ⟨b, o + 3, none⟩ (.int .i64 s.2.2.2)
theorem OwnS.step {w : World} {b n k : Nat} {L : List St} (h : OwnS w b n L k) (hk : k < n) : OwnS (set4 w b (k * 4) (stA L k)) b n L (k + 1) := by
  obtain ⟨cur, hc, hn, hs⟩ := h
  have e1 := heap_setCell_same w b (k * 4) cur _ (.int .i64 (stA L k).1) hc
  have e2 := heap_setCell_same _ b (k * 4 + 1) _ _ (.int .i64 (stA L k).2.1) e1
  have e3 := heap_setCell_same _ b (k * 4 + 2) _ _ (.int .i64 (stA L k).2.2.1) e2
  have e4 := heap_setCell_same _ b (k * 4 + 3) _ _ (.int .i64 (stA L k).2.2.2) e3
  refine ⟨_, e4, by simpa using hn, fun j hj => ?_⟩
  by_cases e : j = k
  · subst e
    refine ⟨?_, ?_, ?_, ?_⟩ <;> simp [Array.getElem?_setIfInBounds] <;> omega
  · obtain ⟨h0, h1, h2, h3⟩ := hs j (by omega)
    refine ⟨?_, ?_, ?_, ?_⟩
    · simp only [Array.getElem?_setIfInBounds]
      rw [if_neg (by omega), if_neg (by omega), if_neg (by omega), if_neg (by omega)]; exact h0
    · simp only [Array.getElem?_setIfInBounds]
      rw [if_neg (by omega), if_neg (by omega), if_neg (by omega), if_neg (by omega)]; exact h1
    · simp only [Array.getElem?_setIfInBounds]
      rw [if_neg (by omega), if_neg (by omega), if_neg (by omega), if_neg (by omega)]; exact h2
    · simp only [Array.getElem?_setIfInBounds]
      rw [if_neg (by omega), if_neg (by omega), if_neg (by omega), if_neg (by omega)]; exact h3
theorem belowSet4 {B : Nat} {w w1 : World} {b o : Nat} {s : St} (h : Below B w w1) (hb : B ≤ b) : Below B w (set4 w1 b o s) := (((h.setCell hb _).setCell hb _).setCell hb _).setCell hb _
theorem info_star : (Tryz.prog.info? 113).map (fun i => (i.zero, i.size, i.bytes)) = some (some (.agg #[.int .i64 0, .int .i64 0, .int .i64 0, .int .i64 0]), 4, 32) := by kernel_rfl
theorem own_made {w w' : World} {B b n : Nat} {L : List St} {xs : List Value} (h : w'.ownsRow B 113 4 (.slice (some ⟨b, 0, none⟩) n n) n xs) : OwnS w' b n L 0 := by
  rcases h.2 with ⟨h', _⟩ | ⟨g, cap, cur, hv, _, hg, _, _, hcs, _⟩
  · simp at h'
  · simp only [Value.slice.injEq, Option.some.injEq, Addr.mk.injEq, and_true, true_and] at hv
    obtain ⟨rfl, rfl⟩ := hv
    exact ⟨cur, hg, hcs, fun j hj => absurd hj (Nat.not_lt_zero _)⟩
theorem below_grownNone' {w w' : World} (h : w.grownBy w' none) : Below w.heap.size w w' := ⟨h.os, h.tape, h.output, h.size, fun k hk => h.block k hk (by simp)⟩
set_option maxHeartbeats 1000000 in
set_option maxRecDepth 100000 in
theorem toStarS_any (L : List St) (a : Option Addr) (c : Nat) (w : World) (hn : L.length ≤ 1048576) (hS : Stars w a L L.length) :
    Calls Tryz.prog 30 #[.slice a L.length c] w fun e w' => e = .returned (.slice (some ⟨w.heap.size, 0, none⟩) L.length L.length) ∧ OwnS w' w.heap.size L.length L L.length ∧ Below w.heap.size w w' := by
  obtain ⟨n, hnl⟩ : ∃ n, L.length = n := ⟨_, rfl⟩
  rw [hnl] at hn hS ⊢
  clear hnl
  have HS := yz hS
  clear hS
  obtain ⟨i0, hi, hz0, hz1, hz2⟩ := info_parts info_star
  go_enter Tryz.func30, Tryz.ntmps30
  go_wp2_with (at_make; refine wpList_make_full _ rfl _ _ 34 rfl w.heap.size 113 i0 (.agg #[.int .i64 0, .int .i64 0, .int .i64 0, .int .i64 0]) 4 Tryz.underlying34 hi hz0 hz1 .i64 .i64 _ _ n rfl rfl rfl rfl (by rw [hz2]; omega) (by unfold maxLen; omega) (Nat.le_refl _) ?_; intro w0 hown0 hgrow0)
  have H0 := yz (own_made (w := w) (L := L) hown0)
  have HB0 := yz (below_grownNone' hgrow0)
  clear hown0 hgrow0
  rcases yx HS with rfl | ⟨b, o, rfl, hb, hc⟩
  · refine wp_loop_rounds 1 ?_
    rw [rounds_succ]
    go_wp2_with fail
    go_ret
    exact ⟨rfl, yx H0, yx HB0⟩
  have HC := yz hc
  clear hc
  go_loopw [4] (fun i wr => ∃ k : Nat, k ≤ n ∧ i = .int .i64 k ∧ Hid (OwnS wr w.heap.size n L k) ∧ Hid (Below w.heap.size w wr)) (fun i _ => n - (intOf i).toNat)
  case atStart => exact ⟨0, by omega, rfl, H0, HB0⟩
  case round =>
    obtain ⟨k, hk, rfl, HO, HB⟩ := hrel
    by_cases hkn : k < n
    · obtain ⟨⟨s1, s2, s3, s4⟩, hs⟩ : ∃ s, stA L k = s := ⟨_, rfl⟩
      have hst := ((yx HC) k hkn).kept hb (yx HB)
      rw [hs] at hst
      obtain ⟨c0, c1, c2, c3⟩ := hst
      have HT := yz hs
      clear hs
      go_wp2_with fail
      refine (toStar_any s1 s2 s3 s4 _).mono ?_
      rintro e w2 ⟨rfl, hx⟩
      clear c0 c1 c2 c3
      have O2 := yz ((yx HO).kept hx)
      have B2 := yz (below_call (yx HB) hx)
      clear hx
      obtain ⟨x0, e0⟩ := (yx O2).old (i := k * 4) (by omega)
      obtain ⟨x1, e1⟩ := (yx O2).old (i := k * 4 + 1) (by omega)
      obtain ⟨x2, e2⟩ := (yx O2).old (i := k * 4 + 2) (by omega)
      obtain ⟨x3, e3⟩ := (yx O2).old (i := k * 4 + 3) (by omega)
      have f0 := (yx O2).free (k * 4)
      have f1 := (yx O2).free (k * 4 + 1)
      have f2 := (yx O2).free (k * 4 + 2)
      have f3 := (yx O2).free (k * 4 + 3)
      have O3 := (yx O2).step hkn
      rw [yx HT] at O3
      have HO3 := yz O3
      have HB3 := yz (belowSet4 (o := k * 4) (s := (s1, s2, s3, s4)) (yx B2) (Nat.le_refl _))
      clear O3
      go_wp2_with fail
      go_roundw
      case rel => exact ⟨k + 1, by omega, by go_num, HO3, HB3⟩
      case measure => simp [intOf]; omega
    · have hkn' : k = n := by omega
      subst hkn'
      go_wp2_with fail
      go_ret
      exact ⟨rfl, yx HO, yx HB⟩
set_option maxRecDepth 100000 in
theorem eqVec_same (x y z : Int) (w : World) :
    Calls Tryz.prog 81 #[.agg #[.int .i64 x, .int .i64 y, .int .i64 z], .agg #[.int .i64 x, .int .i64 y, .int .i64 z]] w fun e w' => e = .returned (.bool true) ∧ Below w.heap.size w w' := by
  go_enter Tryz.func81, Tryz.ntmps81
  go_wp2
  go_ret
  exact ⟨rfl, below2 _ _ _⟩
set_option maxRecDepth 100000 in
theorem eqStar_same (i x y z : Int) (w : World) :
    Calls Tryz.prog 80 #[.agg #[.int .i64 i, .int .i64 x, .int .i64 y, .int .i64 z], .agg #[.int .i64 i, .int .i64 x, .int .i64 y, .int .i64 z]] w fun e w' => e = .returned (.bool true) ∧ Below w.heap.size w w' := by
  go_enter Tryz.func80, Tryz.ntmps80
  go_wp2_with fail
  refine (eqVec_same x y z _).mono ?_
  rintro e w1 ⟨rfl, hx⟩
  go_wp2_with fail
  go_ret
  exact ⟨rfl, below_call (below2 _ _ _) hx⟩
set_option maxHeartbeats 1000000 in
set_option maxRecDepth 100000 in
theorem eqStarS_same (L : List St) (n : Nat) (a a' : Option Addr) (c c' : Nat) (w : World) (hn : n ≤ 1048576) (hS : Stars w a L n) (hS' : Stars w a' L n) :
    Calls Tryz.prog 37 #[.slice a n c, .slice a' n c'] w fun e w' => e = .returned (.bool true) ∧ Below w.heap.size w w' := by
  rcases hS with rfl | ⟨b, o, rfl, hb, hc⟩
  · clear hS'
    go_enter Tryz.func37, Tryz.ntmps37
    go_wp2_with fail
    refine wp_loop_rounds 1 ?_
    rw [rounds_succ]
    go_wp2_with fail
    go_ret
    exact ⟨rfl, Below.refl _ _⟩
  rcases hS' with rfl | ⟨b', o', rfl, hb', hc'⟩
  · clear hc
    go_enter Tryz.func37, Tryz.ntmps37
    go_wp2_with fail
    refine wp_loop_rounds 1 ?_
    rw [rounds_succ]
    go_wp2_with fail
    go_ret
    exact ⟨rfl, Below.refl _ _⟩
  have HC := yz hc
  have HC' := yz hc'
  clear hc hc'
  go_enter Tryz.func37, Tryz.ntmps37
  go_wp2_with fail
  go_loopw [5] (fun i wr => ∃ k : Nat, k ≤ n ∧ i = .int .i64 k ∧ Hid (Below w.heap.size w wr)) (fun i _ => n - (intOf i).toNat)
  case atStart => exact ⟨0, by omega, rfl, yz (Below.refl _ _)⟩
  case round =>
    obtain ⟨k, hk, rfl, HB⟩ := hrel
    by_cases hkn : k < n
    · obtain ⟨⟨s1, s2, s3, s4⟩, hs⟩ : ∃ s, stA L k = s := ⟨_, rfl⟩
      have hst := ((yx HC) k hkn).kept hb (yx HB)
      have hst' := ((yx HC') k hkn).kept hb' (yx HB)
      rw [hs] at hst hst'
      obtain ⟨c0, c1, c2, c3⟩ := hst
      obtain ⟨d0, d1, d2, d3⟩ := hst'
      have r0 := cell_regrown c0
      have r1 := cell_regrown c1
      have r2 := cell_regrown c2
      have r3 := cell_regrown c3
      have t0 := cell_regrown d0
      have t1 := cell_regrown d1
      have t2 := cell_regrown d2
      have t3 := cell_regrown d3
      clear c0 c1 c2 c3 d0 d1 d2 d3 hs
      have hkn2 : (k : Int) < (n : Int) := by omega
      have cE := yz (fun W => eqStar_same s1 s2 s3 s4 W)
      go_wp2_with fail
      refine wp_region_quiet_below (by kernel_rfl) (by kernel_rfl) ?_
      repeat (go_big_quiet_step (first | (with_reducible exact Calls.regrown_of (yx cE _))))
      refine wpQuiet_nil ?_
      intro _ hw'
      obtain ⟨⟨dq, osq⟩, hw''⟩ := hw'
      subst hw''
      have hx := below_call (yx HB) (below_regrown wr dq osq)
      generalize grow (redrawn wr dq) osq = W2 at hx ⊢
      have HB2 := yz hx
      clear hx r0 r1 r2 r3 t0 t1 t2 t3 cE HB
      go_wp2_with fail
      go_roundw
      case rel => exact ⟨k + 1, by omega, by go_num, HB2⟩
      case measure => simp [intOf]; omega
    · have hkn' : k = n := by omega
      subst hkn'
      go_wp2_with fail
      go_ret
      exact ⟨rfl, yx HB⟩
def noneTo (L : List St) (id : Int) (k : Nat) : Prop := ∀ j, j < k → (stA L j).1 ≠ id
def atV (L : List St) (n : Nat) (id : Int) : Int × Int × Int := match (List.range n).find? (fun j => decide ((stA L j).1 = id)) with | none => (0, 0, 0) | some j => (stA L j).2
theorem at_none {L : List St} {n : Nat} {id : Int} (h : noneTo L id n) : atV L n id = (0, 0, 0) := by
  unfold atV
  have : (List.range n).find? (fun j => decide ((stA L j).1 = id)) = none := by
    rw [List.find?_eq_none]
    intro j hj
    simp [h j (List.mem_range.1 hj)]
  rw [this]
theorem at_hit {L : List St} {n k : Nat} {id : Int} (hk : k < n) (h : noneTo L id k) (h1 : (stA L k).1 = id) : atV L n id = (stA L k).2 := by
  unfold atV
  have : (List.range n).find? (fun j => decide ((stA L j).1 = id)) = some k := by
    rw [List.find?_range_eq_some]
    exact ⟨by simp [h1], List.mem_range.2 hk, fun j hj => by simp [h j hj]⟩
  rw [this]
theorem none_step {L : List St} {k : Nat} {id : Int} (h : noneTo L id k) (h1 : (stA L k).1 ≠ id) : noneTo L id (k + 1) := by
  intro j hj
  by_cases e : j = k
  · rw [e]; exact h1
  · exact h j (by omega)
def starV (L : List St) (id : Int) : Int × Int × Int := if skyB L = true then atV L L.length id else (0, 0, 0)
def vecV (v : Int × Int × Int) : Value := .agg #[.int .i64 v.1, .int .i64 v.2.1, .int .i64 v.2.2]
set_option maxHeartbeats 1000000 in
set_option maxRecDepth 100000 in
theorem l04At_any (L : List St) (n : Nat) (id : Int) (a : Option Addr) (c : Nat) (w : World) (hn : n ≤ 1048576) (hS : Stars w a L n) :
    Calls Tryz.prog 199 #[.slice a n c, .int .i64 id] w fun e w' => e = .returned (vecV (atV L n id)) ∧ Below w.heap.size w w' := by
  rcases hS with rfl | ⟨b, o, rfl, hb, hc⟩
  · have HO : Hid (atV L 0 id = (0, 0, 0)) := yz (at_none (fun j hj => absurd hj (Nat.not_lt_zero _)))
    go_enter Tryz.func199, Tryz.ntmps199
    go_wp2_with fail
    refine wp_loop_rounds 1 ?_
    rw [rounds_succ]
    go_wp2_with fail
    exact bodyPost_ret (v := .agg #[.int .i64 0, .int .i64 0, .int .i64 0]) (by simp [results, Tryz.results199, go_sem]) rfl ⟨by rw [yx HO]; rfl, below1 _ _⟩
  go_enter Tryz.func199, Tryz.ntmps199
  go_wp2_with fail
  have hv := vecAt_new w 0 0 0 111
  have hf := freeAt_new w 0 0 0 111
  have hB := below1 w (.cells #[.int .i64 0, .int .i64 0, .int .i64 0] 111)
  generalize w.alloc (.cells #[.int .i64 0, .int .i64 0, .int .i64 0] 111) = W at hv hf hB ⊢
  have HC : Hid (∀ i, i < n → StarAt W b (o + i * 4) (stA L i)) := yz (fun i hi => (hc i hi).kept hb hB)
  have HB := yz hB
  clear hc hB
  obtain ⟨v0, v1, v2⟩ := hv
  obtain ⟨f0, f1, f2⟩ := hf
  go_loop [5] (fun i => ∃ k : Nat, k ≤ n ∧ i = .int .i64 k ∧ Hid (noneTo L id k)) (fun i => n - (intOf i).toNat)
  case atStart => exact ⟨0, by omega, rfl, yz (fun j hj => absurd hj (Nat.not_lt_zero _))⟩
  case round =>
    obtain ⟨k, hk, rfl, HF⟩ := hrel
    by_cases hkn : k < n
    · obtain ⟨⟨s1, s2, s3, s4⟩, hs⟩ : ∃ s, stA L k = s := ⟨_, rfl⟩
      have hst := (yx HC) k hkn
      rw [hs] at hst
      obtain ⟨c0, c1, c2, c3⟩ := hst
      have HT := yz hs
      clear hs
      by_cases hq : s1 = id
      · have HO : Hid (atV L n id = (s2, s3, s4)) := yz (by rw [at_hit hkn (yx HF) (by rw [yx HT]; exact hq), yx HT])
        have hq' : (s1 == id) = true := by simp [hq]
        clear hq
        go_wp2_with fail
        exact bodyPost_ret (v := .agg #[.int .i64 s2, .int .i64 s3, .int .i64 s4]) (by simp [results, Tryz.results199, go_sem, v0, v1, v2]) rfl ⟨by rw [yx HO]; rfl, below_set3 (yx HB) (Nat.le_refl _) _ _ _⟩
      · have HF2 := yz (none_step (yx HF) (by rw [yx HT]; exact hq))
        have hq' : (s1 == id) = false := by simp [hq]
        clear hq
        go_wp2_with fail
        go_round
        case rel => exact ⟨k + 1, by omega, by go_num, HF2⟩
        case measure => simp [intOf]; omega
    · have hkn' : k = n := by omega
      subst hkn'
      have HO := yz (at_none (yx HF))
      go_wp2_with fail
      exact bodyPost_ret (v := .agg #[.int .i64 0, .int .i64 0, .int .i64 0]) (by simp [results, Tryz.results199, go_sem, v0, v1, v2]) rfl ⟨by rw [yx HO]; rfl, below_set3 (yx HB) (Nat.le_refl _) _ _ _⟩
set_option maxHeartbeats 1000000 in
set_option maxRecDepth 100000 in
theorem starOf_any (L : List St) (id : Int) (a : Option Addr) (c : Nat) (p : Addr) (w : World) (hn : L.length ≤ 1048576) (hcap : L.length ≤ c) (hc9 : c ≤ 9223372036854775807) (hS : Stars w a L L.length) (hE : ErrSky p w) :
    Calls Tryz.prog 219 #[.slice a L.length c, .int .i64 id] w fun e w' => e = .returned (vecV (starV L id)) ∧ Below w.heap.size w w' := by
  have cS := yz (fun (W : World) hW hE => skyRight_any L a c p W hn hcap hc9 hW hE)
  have HS := yz hS
  have HE := yz hE
  clear hS hE
  have HV := yz (show starV L id = if skyB L = true then atV L L.length id else (0, 0, 0) from rfl)
  generalize L.length = n at *
  have V0 := yz (vecAt_new w 0 0 0 111)
  have F0 := yz (freeAt_new w 0 0 0 111)
  have B0 := yz (below1 w (.cells #[.int .i64 0, .int .i64 0, .int .i64 0] 111))
  go_enter Tryz.func219, Tryz.ntmps219
  go_wp2_with fail
  refine (yx cS _ ((yx HS).kept (yx B0)) ((yx HE).kept (yx B0))).mono ?_
  rintro e w1 ⟨rfl, hx⟩
  have HB := yz (below_call (yx B0) hx)
  have V1 := yz ((yx V0).kept (by simp) hx)
  have F1 := yz ((yx F0).kept (by simp) hx)
  clear hx V0 F0 B0
  cases hk : skyB L
  · rw [hk] at HV
    obtain ⟨v0, v1, v2⟩ := yx V1
    obtain ⟨f0, f1, f2⟩ := yx F1
    clear hk
    go_wp2_with fail
    exact bodyPost_ret (v := .agg #[.int .i64 0, .int .i64 0, .int .i64 0]) (by simp [results, Tryz.results219, go_sem, v0, v1, v2]) rfl ⟨by rw [yx HV]; rfl, below_set3 (yx HB) (Nat.le_refl _) _ _ _⟩
  rw [hk] at HV
  have HV' : Hid (starV L id = atV L n id) := yz (by rw [yx HV]; rfl)
  clear hk HV
  rcases yx HS with rfl | ⟨b, o, rfl, hb, hc⟩
  · have HO : Hid (atV L 0 id = (0, 0, 0)) := yz (at_none (fun j hj => absurd hj (Nat.not_lt_zero _)))
    obtain ⟨v0, v1, v2⟩ := yx V1
    obtain ⟨f0, f1, f2⟩ := yx F1
    go_wp2_with fail
    refine wp_loop_rounds 1 ?_
    rw [rounds_succ]
    go_wp2_with fail
    exact bodyPost_ret (v := .agg #[.int .i64 0, .int .i64 0, .int .i64 0]) (by simp [results, Tryz.results219, go_sem, v0, v1, v2]) rfl ⟨by rw [yx HV', yx HO]; rfl, below_set3 (yx HB) (Nat.le_refl _) _ _ _⟩
  have HC := yz hc
  clear hc
  go_wp2_with fail
  go_loopw [13] (fun i wr => ∃ k : Nat, k ≤ n ∧ i = .int .i64 k ∧ Hid (noneTo L id k) ∧ Hid (Below w.heap.size w wr) ∧ Hid (VecAt wr w.heap.size 0 0 0) ∧ Hid (FreeAt wr w.heap.size)) (fun i _ => n - (intOf i).toNat)
  case atStart => exact ⟨0, by omega, rfl, yz (fun j hj => absurd hj (Nat.not_lt_zero _)), HB, V1, F1⟩
  case round =>
    clear HB V1 F1
    obtain ⟨k, hk, rfl, HF, HB, V1, F1⟩ := hrel
    by_cases hkn : k < n
    · obtain ⟨⟨s1, s2, s3, s4⟩, hs⟩ : ∃ s, stA L k = s := ⟨_, rfl⟩
      have hst := ((yx HC) k hkn).kept hb (yx HB)
      rw [hs] at hst
      obtain ⟨c0, c1, c2, c3⟩ := hst
      have HT := yz hs
      clear hs
      have B2 := yz ((yx HB).alloc (yx HB).size (.cells #[.int .i64 s1, .int .i64 s2, .int .i64 s3, .int .i64 s4] 113))
      have V2 := yz ((yx V1).kept (vlt (yx V1)) (below1 wr (.cells #[.int .i64 s1, .int .i64 s2, .int .i64 s3, .int .i64 s4] 113)))
      have F2 := yz ((yx F1).kept (vlt (yx V1)) (below1 wr (.cells #[.int .i64 s1, .int .i64 s2, .int .i64 s3, .int .i64 s4] 113)))
      obtain ⟨v0, v1, v2⟩ := yx V2
      obtain ⟨f0, f1, f2⟩ := yx F2
      by_cases hq : s1 = id
      · have HO : Hid (atV L n id = (s2, s3, s4)) := yz (by rw [at_hit hkn (yx HF) (by rw [yx HT]; exact hq), yx HT])
        have hq' : (s1 == id) = true := by simp [hq]
        clear hq
        go_wp2_with fail
        exact bodyPost_ret (v := .agg #[.int .i64 s2, .int .i64 s3, .int .i64 s4]) (by simp [results, Tryz.results219, go_sem, v0, v1, v2]) rfl ⟨by rw [yx HV', yx HO]; rfl, below_set3 (yx B2) (Nat.le_refl _) _ _ _⟩
      · have HF2 := yz (none_step (yx HF) (by rw [yx HT]; exact hq))
        have hq' : (s1 == id) = false := by simp [hq]
        clear hq
        go_wp2_with fail
        go_roundw
        case rel => exact ⟨k + 1, by omega, by go_num, HF2, B2, V2, F2⟩
        case measure => simp [intOf]; omega
    · have hkn' : k = n := by omega
      subst hkn'
      have HO := yz (at_none (yx HF))
      obtain ⟨v0, v1, v2⟩ := yx V1
      obtain ⟨f0, f1, f2⟩ := yx F1
      go_wp2_with fail
      exact bodyPost_ret (v := .agg #[.int .i64 0, .int .i64 0, .int .i64 0]) (by simp [results, Tryz.results219, go_sem, v0, v1, v2]) rfl ⟨by rw [yx HV', yx HO]; rfl, below_set3 (yx HB) (Nat.le_refl _) _ _ _⟩
end Go.Proofs.YteoonaanoenjiaaGreatDoor
