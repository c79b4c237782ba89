/- Several texts in one: TsB, LwK. -/
import Derived.Lib.QuietBelow
import Derived.BigQuiet
import Derived.Test.YtgiodlllokdcdaaGreatDoorQFnModeOwn6
import Derived.Test.YtgiodlllokdcdaaGreatDoorQFnModeOwn2
import Derived.Test.YtgiodlllokdcdaaGreatDoorQFnModeOwn10
import Derived.Test.YtgiodlllokdcdaaGreatDoorQFnModeOwn4
import Derived.Test.YtgiodlllokdcdaaGreatDoorQFnModeOwn5
import Derived.Test.YtgiodlllokdcdaaGreatDoorQFnModeOwn12
import Derived.Test.YtgiodlllokdcdaaGreatDoorQFnModeOwn22
namespace Go.Proofs.YtgiodlllokdcdaaGreatDoor
set_option linter.unusedVariables false
set_option linter.unusedSimpArgs false
set_option maxRecDepth 100000
set_option maxHeartbeats 8000000
section
open Go.RowKit Go.Sort
theorem mX (w : World) :
  Calls Tryz.prog 101 #[] w fun e w' => (∃ v, e = .returned v ∧ w'.ownsRow w.heap.size 25 4 v (az 625).length (cH (az 625))) ∧ Below w.heap.size w w' := by
 obtain ⟨i0, hinf, hz0, hz1, hz2⟩ := info_parts nA
 have hm8 : 1000 ≤ maxLen := by decide +kernel
 have HO0 := yz (sQ w w.heap.size (Nat.le_refl _))
 have HB0 := yz (an w (.cells #[] 25))
 go_enter Tryz.func101, Tryz.ntmps101
 go_wp2_with fail
 generalize w.alloc (.cells #[] 25) = W0 at HO0 HB0 ⊢
 go_loopw [1, 2] (fun v kk wr => ∃ i : Nat, i ≤ 5 ∧ kk = .int .i64 ((i : Int) - 2) ∧ Hid (wr.ownsRow w.heap.size 25 4 v (az (i * 125)).length (cH (az (i * 125)))) ∧ Hid (Below w.heap.size w wr)) (fun _ kk _ => (3 - intOf kk).toNat)
 case atStart => exact ⟨0, by omega, rfl, HO0, HB0⟩
 case round =>
  clear HO0 HB0
  obtain ⟨i, hi, rfl, HO1, HB1⟩ := hrel
  by_cases hi5 : i < 5
  ·have hi2 : (i : Int) - 2 ≤ 2 := by omega
   go_wp2_with fail
   go_loopw [1, 3] (fun v kk wr => ∃ j : Nat, j ≤ 5 ∧ kk = .int .i64 ((j : Int) - 2) ∧ Hid (wr.ownsRow w.heap.size 25 4 v (az (i * 125 + j * 25)).length (cH (az (i * 125 + j * 25)))) ∧ Hid (Below w.heap.size w wr)) (fun _ kk _ => (3 - intOf kk).toNat)
   case atStart => exact ⟨0, by omega, rfl, yz (by have h := yy HO1; simpa using h), HB1⟩
   case round =>
    clear HO1 HB1
    obtain ⟨j, hj, rfl, HO2, HB2⟩ := hrel
    by_cases hj5 : j < 5
    ·have hj2 : (j : Int) - 2 ≤ 2 := by omega
     go_wp2_with fail
     go_loopw [1, 4] (fun v kk wr => ∃ l : Nat, l ≤ 5 ∧ kk = .int .i64 ((l : Int) - 2) ∧ Hid (wr.ownsRow w.heap.size 25 4 v (az (i * 125 + j * 25 + l * 5)).length (cH (az (i * 125 + j * 25 + l * 5)))) ∧ Hid (Below w.heap.size w wr)) (fun _ kk _ => (3 - intOf kk).toNat)
     case atStart => exact ⟨0, by omega, rfl, yz (by have h := yy HO2; simpa using h), HB2⟩
     case round =>
      clear HO2 HB2
      obtain ⟨l, hl, rfl, HO3, HB3⟩ := hrel
      by_cases hl5 : l < 5
      ·have hl2 : (l : Int) - 2 ≤ 2 := by omega
       go_wp2_with fail
       go_loopw [1, 5] (fun v kk wr => ∃ m : Nat, m ≤ 5 ∧ kk = .int .i64 ((m : Int) - 2) ∧ Hid (wr.ownsRow w.heap.size 25 4 v (az (i * 125 + j * 25 + l * 5 + m)).length (cH (az (i * 125 + j * 25 + l * 5 + m)))) ∧ Hid (Below w.heap.size w wr)) (fun _ kk _ => (3 - intOf kk).toNat)
       case atStart => exact ⟨0, by omega, rfl, yz (by have h := yy HO3; simpa using h), HB3⟩
       case round =>
        clear HO3 HB3
        obtain ⟨m, hm, rfl, HO4, HB4⟩ := hrel
        by_cases hm5 : m < 5
        ·have hm2 : (m : Int) - 2 ≤ 2 := by omega
         have hta := vF i j l m hj5 hl5 hm5
         have hpl := iE (i * 125 + j * 25 + l * 5 + m)
         have HSN := yz (mC (i * 125 + j * 25 + l * 5 + m))
         rw [hta] at HSN
         clear hta
         generalize hke : i * 125 + j * 25 + l * 5 + m = k at *
         have hkb : k < 625 := by omega
         have HKE : Hid (i * 125 + j * 25 + l * 5 + (m + 1) = k + 1) := yz (by omega)
         clear hke
         have Z := an wr (.cells #[.int .i64 ((i : Int) - 2), .int .i64 ((j : Int) - 2), .int .i64 ((l : Int) - 2), .int .i64 ((m : Int) - 2)] 25)
         have HBa := yz (aj (yy HB4) Z)
         have HOa := yz (fD (yy HO4) Z)
         have TA1 := aO wr ((i : Int) - 2) ((j : Int) - 2) ((l : Int) - 2) ((m : Int) - 2) 25
         clear Z HO4 HB4
         go_wp2_with fail
         obtain ⟨p, hp⟩ : ∃ p, p = (i : Int) - 2 := ⟨_, rfl⟩
         obtain ⟨q, hq⟩ : ∃ p, p = (j : Int) - 2 := ⟨_, rfl⟩
         obtain ⟨r, hr⟩ : ∃ p, p = (l : Int) - 2 := ⟨_, rfl⟩
         obtain ⟨s, hs⟩ : ∃ p, p = (m : Int) - 2 := ⟨_, rfl⟩
         generalize wr.alloc (.cells #[.int .i64 ((i : Int) - 2), .int .i64 ((j : Int) - 2), .int .i64 ((l : Int) - 2), .int .i64 ((m : Int) - 2)] 25) = W1 at HBa HOa TA1 ⊢
         refine (bc _ _ _ _ _).mono ?_
         rintro e W2 ⟨rfl, hx⟩
         have TA2 := TA1.kept TA1.lt hx
         have HBb := yz (aj (yy HBa) hx)
         have HOb := yz (fD (yy HOa) hx)
         clear hx TA1 HBa HOa
         rw [← hp, ← hq, ← hr, ← hs] at HSN
         rw [← hp, ← hq, ← hr, ← hs] at TA2
         have HG : Hid (kA (p, q, r, s) = aC ((i : Int) - 2) ((j : Int) - 2) ((l : Int) - 2) ((m : Int) - 2)) := yz (by rw [← hp, ← hq, ← hr, ← hs]; rfl)
         generalize wr.heap.size = tb at *
         cases hrt : aC ((i : Int) - 2) ((j : Int) - 2) ((l : Int) - 2) ((m : Int) - 2)
         ·rw [hrt] at HG
          rw [yy HG, if_neg (by simp), List.append_nil] at HSN
          have HO3 : Hid (W2.ownsRow w.heap.size 25 4 u1 (az (i * 125 + j * 25 + l * 5 + (m + 1))).length (cH (az (i * 125 + j * 25 + l * 5 + (m + 1))))) := yz (by rw [yy HKE, yy HSN]; exact yy HOb)
          clear hp hq hr hs
          go_wp2_with fail
          go_roundw
          case rel => exact ⟨m + 1, by omega, by go_num, HO3, HBb⟩
          case measure => simp [intOf] <;> omega
         ·rw [hrt] at HG
          rw [yy HG, if_pos rfl] at HSN
          obtain ⟨e0, e1, e2, e3⟩ := TA2
          have Z1 := an W2 (.cells #[.int .i64 p, .int .i64 q, .int .i64 r, .int .i64 s] 25)
          have hown := fD (yy HOb) Z1
          have B3 := aj (yy HBb) Z1
          have hsz := (yy HBb).size
          have HP := yz hp
          have HQ := yz hq
          have HR := yz hr
          have HS := yz hs
          clear Z1 HOb HBb hp hq hr hs
          generalize az k = Pk at *
          go_wp2_with (at_builtin; refine wpList_append_own _ rfl _ _ 120 rfl w.heap.size 25 i0 (.agg #[.int .i64 0, .int .i64 0, .int .i64 0, .int .i64 0]) 4 32 Tryz.underlying120 hinf hz0 hz1 hz2 rfl (by decide) _ _ _ rfl hown ⟨W2.heap.size, 0, none⟩ 1 1 (cH [(p, q, r, s)]) rfl rfl ?d2 (fun u hu => lE hu) ?d3 ?d4 ?d5 ?_)
          case d2 => first | exact fun j u h => h | exact fP _ _ _
          case d3 => omega
          case d4 => omega
          case d5 => first | omega | (simp; omega)
          intro v7 V7 hown7 hgrow7 _
          have HB8 := yz (tQ B3 hown hgrow7 (by simp; omega))
          have HO8 : Hid (V7.ownsRow w.heap.size 25 4 v7 (az (i * 125 + j * 25 + l * 5 + (m + 1))).length (cH (az (i * 125 + j * 25 + l * 5 + (m + 1))))) := yz (by rw [yy HKE, yy HSN, np, List.length_append]; exact hown7)
          clear hown7 hgrow7 hown B3 e0 e1 e2 e3
          go_wp2_with fail
          go_roundw
          case rel => exact ⟨m + 1, by omega, by go_num, HO8, HB8⟩
          case measure => simp [intOf] <;> omega
        ·have hm2 : ¬ (m : Int) - 2 ≤ 2 := by omega
         have hm5' : m = 5 := by omega
         subst hm5'
         have HOx : Hid (wr.ownsRow w.heap.size 25 4 u1 (az (i * 125 + j * 25 + (l + 1) * 5)).length (cH (az (i * 125 + j * 25 + (l + 1) * 5)))) := yz (by rw [show i * 125 + j * 25 + (l + 1) * 5 = i * 125 + j * 25 + l * 5 + 5 by omega]; exact yy HO4)
         go_wp2_with fail
         go_roundw
         case rel => exact ⟨l + 1, by omega, by go_num, HOx, HB4⟩
         case measure => simp [intOf] <;> omega
      ·have hl2 : ¬ (l : Int) - 2 ≤ 2 := by omega
       have hl5' : l = 5 := by omega
       subst hl5'
       have HOx : Hid (wr.ownsRow w.heap.size 25 4 u1 (az (i * 125 + (j + 1) * 25)).length (cH (az (i * 125 + (j + 1) * 25)))) := yz (by rw [show i * 125 + (j + 1) * 25 = i * 125 + j * 25 + 5 * 5 by omega]; exact yy HO3)
       go_wp2_with fail
       go_roundw
       case rel => exact ⟨j + 1, by omega, by go_num, HOx, HB3⟩
       case measure => simp [intOf] <;> omega
    ·have hj2 : ¬ (j : Int) - 2 ≤ 2 := by omega
     have hj5' : j = 5 := by omega
     subst hj5'
     have HOx : Hid (wr.ownsRow w.heap.size 25 4 u1 (az ((i + 1) * 125)).length (cH (az ((i + 1) * 125)))) := yz (by rw [show (i + 1) * 125 = i * 125 + 5 * 25 by omega]; exact yy HO2)
     go_wp2_with fail
     go_roundw
     case rel => exact ⟨i + 1, by omega, by go_num, HOx, HB2⟩
     case measure => simp [intOf] <;> omega
  ·have hi2 : ¬ (i : Int) - 2 ≤ 2 := by omega
   have hi5' : i = 5 := by omega
   subst hi5'
   go_wp2_with fail
   go_ret
   exact ⟨⟨_, rfl, yy HO1⟩, yy HB1⟩
end
section
open Go.RowKit Go.Sort
theorem mQ (a1 a2 a3 a4 : Int) (w : World) : (binOp .neq 80 (.agg #[.int .i64 a1, .int .i64 a2, .int .i64 a3, .int .i64 a4]) (.agg #[.int .i64 a1, .int .i64 a2, .int .i64 a3, .int .i64 a4])).run Tryz.prog w = .ok (.bool false) w := by
 simp [go_sem]
theorem mK (a1 a2 a3 a4 : Int) (w : World) : (binOp .eql 25 (.agg #[.int .i64 a1, .int .i64 a2, .int .i64 a3, .int .i64 a4]) (.agg #[.int .i64 a1, .int .i64 a2, .int .i64 a3, .int .i64 a4])).run Tryz.prog w = .ok (.bool true) w := by
 simp [go_sem]
theorem qM (L : List St) (a a' : Option Addr) (c c' : Nat) (w : World) (hn : L.length ≤ 1048576) (hS : aH w a L L.length) (hS' : aH w a' L L.length) :
  Calls Tryz.prog 69 #[.slice a L.length c, .slice a' L.length c'] w fun e w' => e = .returned (.bool true) ∧ Below w.heap.size w w' := by
 have hq := mQ
 have HS := yz hS
 have HS' := yz hS'
 clear hS hS'
 go_enter Tryz.func69, Tryz.ntmps69
 go_wp2_with fail
 go_loopw [5] (fun i wr => ∃ k : Nat, k ≤ L.length ∧ i = .int .i64 k ∧ Hid (Below w.heap.size w wr)) (fun i _ => L.length - (intOf i).toNat)
 case atStart => exact ⟨0, by omega, rfl, yz (Below.refl _ _)⟩
 case round =>
  obtain ⟨k, hk, rfl, HB⟩ := hrel
  by_cases hkn : k < L.length
  ·have hkn2 : (k : Int) < (L.length : Int) := by omega
   have h1 : ∃ g o, a = some ⟨g, o, none⟩ ∧ fZ wr g (o + k * 4) (stA L k) := by
    rcases (yy HS).kept (yy HB) with h | ⟨g, o, e, _, h⟩
    ·omega
    ·exact ⟨g, o, e, h k hkn⟩
   have h2 : ∃ g o, a' = some ⟨g, o, none⟩ ∧ fZ wr g (o + k * 4) (stA L k) := by
    rcases (yy HS').kept (yy HB) with h | ⟨g, o, e, _, h⟩
    ·omega
    ·exact ⟨g, o, e, h k hkn⟩
   obtain ⟨g, o, rfl, hc⟩ := h1
   obtain ⟨g', o', rfl, hd⟩ := h2
   obtain ⟨⟨s0, s1, s2, s3⟩, hsA⟩ : ∃ s, stA L k = s := ⟨_, rfl⟩
   rw [hsA] at hc hd
   obtain ⟨c0, c1, c2, c3⟩ := hc
   obtain ⟨d0, d1, d2, d3⟩ := hd
   have r0 := cell_regrown c0
   have r1 := cell_regrown c1
   have r2 := cell_regrown c2
   have r3 := cell_regrown c3
   have t0 := cell_regrown d0
   have t1 := cell_regrown d1
   have t2 := cell_regrown d2
   have t3 := cell_regrown d3
   dsimp only at r0 r1 r2 r3 t0 t1 t2 t3
   clear c0 c1 c2 c3 d0 d1 d2 d3 hsA
   go_wp2_with fail
   refine wp_region_quiet_below (by kernel_rfl) (by kernel_rfl) ?_
   repeat (go_big_quiet_step (fail))
   refine wpQuiet_nil ?_
   intro _ hw'
   obtain ⟨⟨dq, osq⟩, hw''⟩ := hw'
   subst hw''
   have hx := aj (yy HB) (below_regrown wr dq osq)
   generalize grow (redrawn wr dq) osq = W2 at hx ⊢
   have HB2 := yz hx
   clear hx HB r0 t0 r1 t1 r2 t2 r3 t3
   go_wp2_with fail
   go_roundw
   case rel => exact ⟨k + 1, by omega, by go_num, HB2⟩
   case measure => simp [intOf] <;> omega
  ·have hkn' : k = L.length := by omega
   subst hkn'
   go_wp2_with fail
   go_ret
   exact ⟨rfl, yy HB⟩
theorem lU (L : List St) (lim mode A B C D coast fr : Int) (a a' : Option Addr) (c c' : Nat) (w : World) (hn : L.length ≤ 1048576) (hS : aH w a L L.length) (hS' : aH w a' L L.length) :
  Calls Tryz.prog 36 #[.agg #[.slice a L.length c, .int .i64 lim, .int .i64 mode, .int .i64 A, .int .i64 B, .int .i64 C, .int .i64 D, .int .i64 coast, .int .i64 fr], .agg #[.slice a' L.length c', .int .i64 lim, .int .i64 mode, .int .i64 A, .int .i64 B, .int .i64 C, .int .i64 D, .int .i64 coast, .int .i64 fr]] w fun e w' => e = .returned (.bool true) ∧ Below w.heap.size w w' := by
 have hq := mK
 have Z := aM w (.cells #[.slice a L.length c, .int .i64 lim, .int .i64 mode, .int .i64 A, .int .i64 B, .int .i64 C, .int .i64 D, .int .i64 coast, .int .i64 fr] 27) (.cells #[.slice a' L.length c', .int .i64 lim, .int .i64 mode, .int .i64 A, .int .i64 B, .int .i64 C, .int .i64 D, .int .i64 coast, .int .i64 fr] 27)
 have H1 := yz ((aD w [.slice a L.length c, .int .i64 lim, .int .i64 mode, .int .i64 A, .int .i64 B, .int .i64 C, .int .i64 D, .int .i64 coast, .int .i64 fr] 27).alloc (.cells #[.slice a' L.length c', .int .i64 lim, .int .i64 mode, .int .i64 A, .int .i64 B, .int .i64 C, .int .i64 D, .int .i64 coast, .int .i64 fr] 27))
 have H2 : Hid (Blk ((w.alloc (.cells #[.slice a L.length c, .int .i64 lim, .int .i64 mode, .int .i64 A, .int .i64 B, .int .i64 C, .int .i64 D, .int .i64 coast, .int .i64 fr] 27)).alloc (.cells #[.slice a' L.length c', .int .i64 lim, .int .i64 mode, .int .i64 A, .int .i64 B, .int .i64 C, .int .i64 D, .int .i64 coast, .int .i64 fr] 27)) (w.heap.size + 1) [.slice a' L.length c', .int .i64 lim, .int .i64 mode, .int .i64 A, .int .i64 B, .int .i64 C, .int .i64 D, .int .i64 coast, .int .i64 fr] 27) := yz (by have h := aD (w.alloc (.cells #[.slice a L.length c, .int .i64 lim, .int .i64 mode, .int .i64 A, .int .i64 B, .int .i64 C, .int .i64 D, .int .i64 coast, .int .i64 fr] 27)) [.slice a' L.length c', .int .i64 lim, .int .i64 mode, .int .i64 A, .int .i64 B, .int .i64 C, .int .i64 D, .int .i64 coast, .int .i64 fr] 27; simpa using h)
 have cE := yz (qM L a a' c c' _ hn (hS.kept Z) (hS'.kept Z))
 have HZ := yz Z
 clear hS hS' Z
 go_enter Tryz.func36, Tryz.ntmps36
 go_upto_region 1 with fail
 generalize (w.alloc (.cells #[.slice a L.length c, .int .i64 lim, .int .i64 mode, .int .i64 A, .int .i64 B, .int .i64 C, .int .i64 D, .int .i64 coast, .int .i64 fr] 27)).alloc (.cells #[.slice a' L.length c', .int .i64 lim, .int .i64 mode, .int .i64 A, .int .i64 B, .int .i64 C, .int .i64 D, .int .i64 coast, .int .i64 fr] 27) = W at *
 obtain ⟨p0, p1, p2, p3, p4, p5, p6, p7, p8⟩ : W.cell? ⟨w.heap.size, 0, none⟩ = some (.slice a L.length c) ∧ W.cell? ⟨w.heap.size, 1, none⟩ = some (.int .i64 lim) ∧ W.cell? ⟨w.heap.size, 2, none⟩ = some (.int .i64 mode) ∧ W.cell? ⟨w.heap.size, 3, none⟩ = some (.int .i64 A) ∧ W.cell? ⟨w.heap.size, 4, none⟩ = some (.int .i64 B) ∧ W.cell? ⟨w.heap.size, 5, none⟩ = some (.int .i64 C) ∧ W.cell? ⟨w.heap.size, 6, none⟩ = some (.int .i64 D) ∧ W.cell? ⟨w.heap.size, 7, none⟩ = some (.int .i64 coast) ∧ W.cell? ⟨w.heap.size, 8, none⟩ = some (.int .i64 fr) := ⟨(yy H1).cell 0 _ rfl, (yy H1).cell 1 _ rfl, (yy H1).cell 2 _ rfl, (yy H1).cell 3 _ rfl, (yy H1).cell 4 _ rfl, (yy H1).cell 5 _ rfl, (yy H1).cell 6 _ rfl, (yy H1).cell 7 _ rfl, (yy H1).cell 8 _ rfl⟩
 obtain ⟨q0, q1, q2, q3, q4, q5, q6, q7, q8⟩ : W.cell? ⟨w.heap.size + 1, 0, none⟩ = some (.slice a' L.length c') ∧ W.cell? ⟨w.heap.size + 1, 1, none⟩ = some (.int .i64 lim) ∧ W.cell? ⟨w.heap.size + 1, 2, none⟩ = some (.int .i64 mode) ∧ W.cell? ⟨w.heap.size + 1, 3, none⟩ = some (.int .i64 A) ∧ W.cell? ⟨w.heap.size + 1, 4, none⟩ = some (.int .i64 B) ∧ W.cell? ⟨w.heap.size + 1, 5, none⟩ = some (.int .i64 C) ∧ W.cell? ⟨w.heap.size + 1, 6, none⟩ = some (.int .i64 D) ∧ W.cell? ⟨w.heap.size + 1, 7, none⟩ = some (.int .i64 coast) ∧ W.cell? ⟨w.heap.size + 1, 8, none⟩ = some (.int .i64 fr) := ⟨(yy H2).cell 0 _ rfl, (yy H2).cell 1 _ rfl, (yy H2).cell 2 _ rfl, (yy H2).cell 3 _ rfl, (yy H2).cell 4 _ rfl, (yy H2).cell 5 _ rfl, (yy H2).cell 6 _ rfl, (yy H2).cell 7 _ rfl, (yy H2).cell 8 _ rfl⟩
 go_wp2_with fail
 refine (yy cE).mono ?_
 rintro e W1 ⟨rfl, hx⟩
 clear p0 p1 p2 p3 p4 p5 p6 p7 p8 q0 q1 q2 q3 q4 q5 q6 q7 q8
 have H3 := yz ((yy H1).kept hx)
 have H4 := yz ((yy H2).kept hx)
 have HB := yz (aj (yy HZ) hx)
 clear hx H1 H2 HZ cE
 obtain ⟨p0, p1, p2, p3, p4, p5, p6, p7, p8⟩ : W1.cell? ⟨w.heap.size, 0, none⟩ = some (.slice a L.length c) ∧ W1.cell? ⟨w.heap.size, 1, none⟩ = some (.int .i64 lim) ∧ W1.cell? ⟨w.heap.size, 2, none⟩ = some (.int .i64 mode) ∧ W1.cell? ⟨w.heap.size, 3, none⟩ = some (.int .i64 A) ∧ W1.cell? ⟨w.heap.size, 4, none⟩ = some (.int .i64 B) ∧ W1.cell? ⟨w.heap.size, 5, none⟩ = some (.int .i64 C) ∧ W1.cell? ⟨w.heap.size, 6, none⟩ = some (.int .i64 D) ∧ W1.cell? ⟨w.heap.size, 7, none⟩ = some (.int .i64 coast) ∧ W1.cell? ⟨w.heap.size, 8, none⟩ = some (.int .i64 fr) := ⟨(yy H3).cell 0 _ rfl, (yy H3).cell 1 _ rfl, (yy H3).cell 2 _ rfl, (yy H3).cell 3 _ rfl, (yy H3).cell 4 _ rfl, (yy H3).cell 5 _ rfl, (yy H3).cell 6 _ rfl, (yy H3).cell 7 _ rfl, (yy H3).cell 8 _ rfl⟩
 obtain ⟨q0, q1, q2, q3, q4, q5, q6, q7, q8⟩ : W1.cell? ⟨w.heap.size + 1, 0, none⟩ = some (.slice a' L.length c') ∧ W1.cell? ⟨w.heap.size + 1, 1, none⟩ = some (.int .i64 lim) ∧ W1.cell? ⟨w.heap.size + 1, 2, none⟩ = some (.int .i64 mode) ∧ W1.cell? ⟨w.heap.size + 1, 3, none⟩ = some (.int .i64 A) ∧ W1.cell? ⟨w.heap.size + 1, 4, none⟩ = some (.int .i64 B) ∧ W1.cell? ⟨w.heap.size + 1, 5, none⟩ = some (.int .i64 C) ∧ W1.cell? ⟨w.heap.size + 1, 6, none⟩ = some (.int .i64 D) ∧ W1.cell? ⟨w.heap.size + 1, 7, none⟩ = some (.int .i64 coast) ∧ W1.cell? ⟨w.heap.size + 1, 8, none⟩ = some (.int .i64 fr) := ⟨(yy H4).cell 0 _ rfl, (yy H4).cell 1 _ rfl, (yy H4).cell 2 _ rfl, (yy H4).cell 3 _ rfl, (yy H4).cell 4 _ rfl, (yy H4).cell 5 _ rfl, (yy H4).cell 6 _ rfl, (yy H4).cell 7 _ rfl, (yy H4).cell 8 _ rfl⟩
 go_wp2_with fail
 go_ret
 exact ⟨rfl, yy HB⟩
theorem gp (L : List St) (lim mode A B C D coast fr code : Int) (a a' : Option Addr) (c c' : Nat) (w : World) (hn : L.length ≤ 1048576) (hS : aH w a L L.length) (hS' : aH w a' L L.length) (hk : code = 0 → aG ⟨L, lim, mode, A, B, C, D, coast, fr⟩ = true) :
  Calls Tryz.prog 10 #[.agg #[.slice a L.length c, .int .i64 lim, .int .i64 mode, .int .i64 A, .int .i64 B, .int .i64 C, .int .i64 D, .int .i64 coast, .int .i64 fr, .int .i64 code], .agg #[.slice a' L.length c', .int .i64 lim, .int .i64 mode, .int .i64 A, .int .i64 B, .int .i64 C, .int .i64 D, .int .i64 coast, .int .i64 fr, .int .i64 code]] w fun e w' => e = .returned (.bool true) ∧ Below w.heap.size w w' := by
 have Z := aM w (.cells #[.slice a L.length c, .int .i64 lim, .int .i64 mode, .int .i64 A, .int .i64 B, .int .i64 C, .int .i64 D, .int .i64 coast, .int .i64 fr, .int .i64 code] 32) (.cells #[.slice a' L.length c', .int .i64 lim, .int .i64 mode, .int .i64 A, .int .i64 B, .int .i64 C, .int .i64 D, .int .i64 coast, .int .i64 fr, .int .i64 code] 32)
 have H1 := yz ((aD w [.slice a L.length c, .int .i64 lim, .int .i64 mode, .int .i64 A, .int .i64 B, .int .i64 C, .int .i64 D, .int .i64 coast, .int .i64 fr, .int .i64 code] 32).alloc (.cells #[.slice a' L.length c', .int .i64 lim, .int .i64 mode, .int .i64 A, .int .i64 B, .int .i64 C, .int .i64 D, .int .i64 coast, .int .i64 fr, .int .i64 code] 32))
 have H2 : Hid (Blk ((w.alloc (.cells #[.slice a L.length c, .int .i64 lim, .int .i64 mode, .int .i64 A, .int .i64 B, .int .i64 C, .int .i64 D, .int .i64 coast, .int .i64 fr, .int .i64 code] 32)).alloc (.cells #[.slice a' L.length c', .int .i64 lim, .int .i64 mode, .int .i64 A, .int .i64 B, .int .i64 C, .int .i64 D, .int .i64 coast, .int .i64 fr, .int .i64 code] 32)) (w.heap.size + 1) [.slice a' L.length c', .int .i64 lim, .int .i64 mode, .int .i64 A, .int .i64 B, .int .i64 C, .int .i64 D, .int .i64 coast, .int .i64 fr, .int .i64 code] 32) := yz (by have h := aD (w.alloc (.cells #[.slice a L.length c, .int .i64 lim, .int .i64 mode, .int .i64 A, .int .i64 B, .int .i64 C, .int .i64 D, .int .i64 coast, .int .i64 fr, .int .i64 code] 32)) [.slice a' L.length c', .int .i64 lim, .int .i64 mode, .int .i64 A, .int .i64 B, .int .i64 C, .int .i64 D, .int .i64 coast, .int .i64 fr, .int .i64 code] 32; simpa using h)
 have cE := yz (lU L lim mode A B C D coast fr a a' c c' _ hn (hS.kept Z) (hS'.kept Z))
 have HS := yz (hS.kept Z)
 have HZ := yz Z
 clear hS hS' Z
 go_enter Tryz.func10, Tryz.ntmps10
 go_upto_region 1 with fail
 generalize (w.alloc (.cells #[.slice a L.length c, .int .i64 lim, .int .i64 mode, .int .i64 A, .int .i64 B, .int .i64 C, .int .i64 D, .int .i64 coast, .int .i64 fr, .int .i64 code] 32)).alloc (.cells #[.slice a' L.length c', .int .i64 lim, .int .i64 mode, .int .i64 A, .int .i64 B, .int .i64 C, .int .i64 D, .int .i64 coast, .int .i64 fr, .int .i64 code] 32) = W at *
 obtain ⟨p0, p1, p2, p3, p4, p5, p6, p7, p8, p9⟩ : W.cell? ⟨w.heap.size, 0, none⟩ = some (.slice a L.length c) ∧ W.cell? ⟨w.heap.size, 1, none⟩ = some (.int .i64 lim) ∧ W.cell? ⟨w.heap.size, 2, none⟩ = some (.int .i64 mode) ∧ W.cell? ⟨w.heap.size, 3, none⟩ = some (.int .i64 A) ∧ W.cell? ⟨w.heap.size, 4, none⟩ = some (.int .i64 B) ∧ W.cell? ⟨w.heap.size, 5, none⟩ = some (.int .i64 C) ∧ W.cell? ⟨w.heap.size, 6, none⟩ = some (.int .i64 D) ∧ W.cell? ⟨w.heap.size, 7, none⟩ = some (.int .i64 coast) ∧ W.cell? ⟨w.heap.size, 8, none⟩ = some (.int .i64 fr) ∧ W.cell? ⟨w.heap.size, 9, none⟩ = some (.int .i64 code) := ⟨(yy H1).cell 0 _ rfl, (yy H1).cell 1 _ rfl, (yy H1).cell 2 _ rfl, (yy H1).cell 3 _ rfl, (yy H1).cell 4 _ rfl, (yy H1).cell 5 _ rfl, (yy H1).cell 6 _ rfl, (yy H1).cell 7 _ rfl, (yy H1).cell 8 _ rfl, (yy H1).cell 9 _ rfl⟩
 obtain ⟨q0, q1, q2, q3, q4, q5, q6, q7, q8, q9⟩ : W.cell? ⟨w.heap.size + 1, 0, none⟩ = some (.slice a' L.length c') ∧ W.cell? ⟨w.heap.size + 1, 1, none⟩ = some (.int .i64 lim) ∧ W.cell? ⟨w.heap.size + 1, 2, none⟩ = some (.int .i64 mode) ∧ W.cell? ⟨w.heap.size + 1, 3, none⟩ = some (.int .i64 A) ∧ W.cell? ⟨w.heap.size + 1, 4, none⟩ = some (.int .i64 B) ∧ W.cell? ⟨w.heap.size + 1, 5, none⟩ = some (.int .i64 C) ∧ W.cell? ⟨w.heap.size + 1, 6, none⟩ = some (.int .i64 D) ∧ W.cell? ⟨w.heap.size + 1, 7, none⟩ = some (.int .i64 coast) ∧ W.cell? ⟨w.heap.size + 1, 8, none⟩ = some (.int .i64 fr) ∧ W.cell? ⟨w.heap.size + 1, 9, none⟩ = some (.int .i64 code) := ⟨(yy H2).cell 0 _ rfl, (yy H2).cell 1 _ rfl, (yy H2).cell 2 _ rfl, (yy H2).cell 3 _ rfl, (yy H2).cell 4 _ rfl, (yy H2).cell 5 _ rfl, (yy H2).cell 6 _ rfl, (yy H2).cell 7 _ rfl, (yy H2).cell 8 _ rfl, (yy H2).cell 9 _ rfl⟩
 go_wp2_with fail
 refine (yy cE).mono ?_
 rintro e W1 ⟨rfl, hx⟩
 clear p0 p1 p2 p3 p4 p5 p6 p7 p8 p9 q0 q1 q2 q3 q4 q5 q6 q7 q8 q9
 have H3 := yz ((yy H1).kept hx)
 have HS1 := yz ((yy HS).kept hx)
 have HB := yz (aj (yy HZ) hx)
 clear hx H1 H2 HZ cE HS
 obtain ⟨p0, p1, p2, p3, p4, p5, p6, p7, p8, p9⟩ : W1.cell? ⟨w.heap.size, 0, none⟩ = some (.slice a L.length c) ∧ W1.cell? ⟨w.heap.size, 1, none⟩ = some (.int .i64 lim) ∧ W1.cell? ⟨w.heap.size, 2, none⟩ = some (.int .i64 mode) ∧ W1.cell? ⟨w.heap.size, 3, none⟩ = some (.int .i64 A) ∧ W1.cell? ⟨w.heap.size, 4, none⟩ = some (.int .i64 B) ∧ W1.cell? ⟨w.heap.size, 5, none⟩ = some (.int .i64 C) ∧ W1.cell? ⟨w.heap.size, 6, none⟩ = some (.int .i64 D) ∧ W1.cell? ⟨w.heap.size, 7, none⟩ = some (.int .i64 coast) ∧ W1.cell? ⟨w.heap.size, 8, none⟩ = some (.int .i64 fr) ∧ W1.cell? ⟨w.heap.size, 9, none⟩ = some (.int .i64 code) := ⟨(yy H3).cell 0 _ rfl, (yy H3).cell 1 _ rfl, (yy H3).cell 2 _ rfl, (yy H3).cell 3 _ rfl, (yy H3).cell 4 _ rfl, (yy H3).cell 5 _ rfl, (yy H3).cell 6 _ rfl, (yy H3).cell 7 _ rfl, (yy H3).cell 8 _ rfl, (yy H3).cell 9 _ rfl⟩
 by_cases h0 : code = 0
 ·have ht := hk h0
  subst h0
  have HK := yz hk
  clear hk
  go_wp2_with fail
  refine (dW L lim mode A B C D coast fr a c W1 hn (yy HS1)).mono ?_
  rintro e W2 ⟨rfl, hx⟩
  rw [ht]
  have HB2 := yz (aj (yy HB) hx)
  clear hx p0 p1 p2 p3 p4 p5 p6 p7 p8 p9
  go_wp2_with fail
  go_ret
  exact ⟨rfl, yy HB2⟩
 ·have h0' : (code == 0) = false := by simpa using h0
  have HK := yz hk
  clear hk
  go_wp2_with fail
  go_ret
  exact ⟨rfl, yy HB⟩
end
end Go.Proofs.YtgiodlllokdcdaaGreatDoor
