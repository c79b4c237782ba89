/- Several texts in one: MaB, NaD, NaE, IdW, L7B. -/
import Derived.Test.YtjdehbpgdplolaaGreatDoorRows
import Derived.Deep.Slices
import Derived.Deep.Strs
import Derived.LaidHandle
import Derived.LaidMore
import Derived.ProofKit
import Derived.WideShapes
import Derived.Test.YtjdehbpgdplolaaGreatDoorQLookOwn9
import Derived.Test.YtjdehbpgdplolaaGreatDoorQLookOwn7
import Derived.Test.YtjdehbpgdplolaaGreatDoorQLookOwn5
import Derived.Test.YtjdehbpgdplolaaGreatDoorQLookOwn8
import Derived.Test.YtjdehbpgdplolaaGreatDoorQLookOwn10
import Derived.Test.YtjdehbpgdplolaaGreatDoorQLookOwn3
namespace Go.Proofs.YtjdehbpgdplolaaGreatDoor
open Go.RowKit Go.Sort
set_option linter.unusedVariables false

def intL (xs : List Int) : List Value := xs.map (fun z => .int .i64 z)
theorem intL_cell {S : List Int} {v : Value} (h : v ∈ intL S) : v.oneCell' = true := by
  unfold intL at h
  rw [List.mem_map] at h
  obtain ⟨p, _, rfl⟩ := h
  rfl
theorem ownI_none (w : World) (B : Nat) (h : B ≤ w.heap.size) : (w.alloc (.cells #[] 2)).ownsRow B 2 1 (.slice (some ⟨w.heap.size, 0, none⟩) 0 0) 0 (intL []) :=
  ⟨rfl, .inr ⟨_, 0, #[], rfl, h, Array.getElem?_push_size, Nat.le_refl _, Nat.zero_le _, rfl, rfl⟩⟩
theorem oLower {w : World} {B B' n m : Nat} {t : TypeId} {v : Value} {xs : List Value} (h : w.ownsRow B t m v n xs) (hb : B' ≤ B) : w.ownsRow B' t m v n xs := by
  obtain ⟨h1, h2⟩ := h
  refine ⟨h1, ?_⟩
  rcases h2 with h2 | ⟨g, cap, cur, e, hg, r⟩
  · exact .inl h2
  · exact .inr ⟨g, cap, cur, e, by omega, r⟩
/-- how many of the first k stars are brought to v -/
def hitsTo (L : List St) (a b c d : Int) (v : D3) : Nat → Nat
  | 0 => 0
  | k + 1 => hitsTo L a b c d v k + if sameD v (apD a b c d (stA L k).2) = true then 1 else 0
/-- how many stars are brought to the first i spots -/
def hitsOf (L : List St) (a b c d : Int) (S : List D3) (n : Nat) : Nat → Nat
  | 0 => 0
  | i + 1 => hitsOf L a b c d S n i + hitsTo L a b c d (vA S i) n
theorem hitsTo_le (L : List St) (a b c d : Int) (v : D3) : ∀ k, hitsTo L a b c d v k ≤ k
  | 0 => Nat.le_refl _
  | k + 1 => by unfold hitsTo; have := hitsTo_le L a b c d v k; split <;> omega
theorem hitsOf_le (L : List St) (a b c d : Int) (S : List D3) (n : Nat) : ∀ i, hitsOf L a b c d S n i ≤ i * n
  | 0 => Nat.zero_le _
  | i + 1 => by unfold hitsOf; have := hitsOf_le L a b c d S n i; have := hitsTo_le L a b c d (vA S i) n; rw [Nat.succ_mul]; omega
def idsL (L : List St) (a b c d : Int) (S : List D3) : List Int := S.map (fun v => idTo L a b c d v L.length)
theorem ids_snoc (L : List St) (a b c d : Int) (S : List D3) (i : Nat) (hi : i < S.length) : idsL L a b c d (S.take (i + 1)) = idsL L a b c d (S.take i) ++ [idTo L a b c d (vA S i) L.length] := by
  have e : S.take (i + 1) = S.take i ++ [vA S i] := by
    rw [List.take_succ_eq_append_getElem hi]
    congr 2
    unfold vA
    rw [List.getD_eq_getElem?_getD, List.getElem?_eq_getElem hi]
    rfl
  unfold idsL
  rw [e, List.map_append]
  rfl
/-- the specification's l02Same, of directions of parts to a million -/
theorem l02Same_within (p q : D3) (w : World) (hp : withinB 1000000 p.1 p.2.1 p.2.2 = true) (hq : withinB 1000000 q.1 q.2.1 q.2.2 = true) :
    Calls Tryz.prog 40 #[.agg #[.int .i64 p.1, .int .i64 p.2.1, .int .i64 p.2.2], .agg #[.int .i64 q.1, .int .i64 q.2.1, .int .i64 q.2.2]] w fun e w' => e = .returned (.bool (sameD q p)) ∧ Below w.heap.size w w' := by
  refine (l02Same_any _ _ _ _ _ _ w).mono fun e w' h => ?_
  have h2 := same_within hp hq
  rw [sameD_comm]
  unfold sameD
  rw [← h2]
  exact h
theorem l03Apply_small (a b c d : Int) (v : D3) (w : World) (ht : rightT a b c d = true) (hv : smallB v.1 v.2.1 v.2.2 = true) :
    Calls Tryz.prog 66 #[.agg #[.int .i64 a, .int .i64 b, .int .i64 c, .int .i64 d], .agg #[.int .i64 v.1, .int .i64 v.2.1, .int .i64 v.2.2]] w fun e w' => e = .returned (.agg #[.int .i64 (apD a b c d v).1, .int .i64 (apD a b c d v).2.1, .int .i64 (apD a b c d v).2.2]) ∧ Below w.heap.size w w' :=
  l03Apply_any a b c d v.1 v.2.1 v.2.2 w (rightT_iff.1 ht).1 (wide_in (small_wideB hv))
theorem wide_million {x y z : Int} (h : wideB x y z = true) : withinB 1000000 x y z = true := by
  have h2 := (rightB_iff.1 (wide_iff h).1).1
  rw [withinB_iff]
  exact h2
set_option maxHeartbeats 4000000 in
set_option maxRecDepth 100000 in
theorem l06Match_any (L : List St) (S : List D3) (ar br : Option Addr) (cr dr : Nat) (a b c d : Int) (w : World) (hk : skyB L = true) (hr : rightT a b c d = true) (hp : spotsB S = true) (hS : Stars w ar L L.length) (hD : Dirs w br S S.length) :
    Calls Tryz.prog 42 #[.slice ar L.length cr, .agg #[.int .i64 a, .int .i64 b, .int .i64 c, .int .i64 d], .slice br S.length dr] w fun e w' => (∃ v, e = .returned (.tuple #[v, .int .i64 (hitsOf L a b c d S L.length S.length : Int)]) ∧ w'.ownsRow w.heap.size 2 1 v (idsL L a b c d S).length (intL (idsL L a b c d S))) ∧ Below w.heap.size w w' := by
  obtain ⟨i0, hinf, hz0, hz1, hz2⟩ := info_parts info_i64
  have hm8 : 1000 ≤ maxLen := by decide +kernel
  have HSM : Hid (∀ j, j < L.length → smallB (stA L j).2.1 (stA L j).2.2.1 (stA L j).2.2.2 = true) := hide (fun j hj => ok_small ((sky_ok hk).2 j hj))
  have HWD : Hid (∀ j, j < S.length → wideD (vA S j) = true) := hide (fun j hj => okV_wide ((spots_ok hp).2 j hj))
  have hn12 := (sky_ok hk).1
  have hm6 := (spots_ok hp).1
  have HSN := hide (ids_snoc L a b c d S)
  have HRT := hide hr
  have HS := hide hS
  have HD := hide hD
  have HAL : Hid (idsL L a b c d (S.take S.length) = idsL L a b c d S) := hide (by rw [List.take_length])
  clear hS hD hk hr hp
  generalize S.length = m at *
  generalize L.length = n at *
  have T0 := turnAt_new w a b c d 31
  have B0 := below1 w (.cells #[.int .i64 a, .int .i64 b, .int .i64 c, .int .i64 d] 31)
  have e1 : (w.alloc (.cells #[.int .i64 a, .int .i64 b, .int .i64 c, .int .i64 d] 31)).heap.size = w.heap.size + 1 := by simp
  have Z := below1 (w.alloc (.cells #[.int .i64 a, .int .i64 b, .int .i64 c, .int .i64 d] 31)) (.cells #[] 2)
  have O0 := ownI_none (w.alloc (.cells #[.int .i64 a, .int .i64 b, .int .i64 c, .int .i64 d] 31)) (w.heap.size + 1) (by omega)
  rw [e1] at O0
  have HT := hide (T0.kept T0.lt Z)
  have HB := hide (below_call B0 Z)
  have HO := hide O0
  have hlow : w.heap.size + 1 ≤ ((w.alloc (.cells #[.int .i64 a, .int .i64 b, .int .i64 c, .int .i64 d] 31)).alloc (.cells #[] 2)).heap.size := by simp
  clear T0 B0 Z O0 e1
  go_enter Tryz.func42, Tryz.ntmps42
  go_wp2_with fail
  generalize (w.alloc (.cells #[.int .i64 a, .int .i64 b, .int .i64 c, .int .i64 d] 31)).alloc (.cells #[] 2) = W0 at HT HB HO hlow ⊢
  go_loopw [8, 9, 10] (fun v cc kk wr => ∃ i : Nat, i ≤ m ∧ kk = .int .i64 i ∧ cc = .int .i64 (hitsOf L a b c d S n i : Int) ∧ Hid (wr.ownsRow (w.heap.size + 1) 2 1 v (idsL L a b c d (S.take i)).length (intL (idsL L a b c d (S.take i)))) ∧ Hid (TurnAt wr w.heap.size a b c d) ∧ Hid (Below w.heap.size w wr) ∧ w.heap.size + 1 ≤ wr.heap.size) (fun _ _ kk _ => m - (intOf kk).toNat)
  case atStart => exact ⟨0, by omega, rfl, rfl, HO, HT, HB, hlow⟩
  case round =>
    clear HO HT HB hlow
    obtain ⟨i, hi, rfl, rfl, HO, HT, HB, hlow⟩ := hrel
    by_cases him : i < m
    · have him2 : (i : Int) < (m : Int) := by omega
      have hhl := hitsOf_le L a b c d S n i
      have hhl2 : hitsOf L a b c d S n i ≤ 100 := by have := Nat.mul_le_mul (show i ≤ 6 by omega) hn12; omega
      have hwd := unhide HWD i him
      have HHI : Hid (hitsOf L a b c d S n (i + 1) = hitsOf L a b c d S n i + hitsTo L a b c d (vA S i) n) := hide rfl
      have HSI := hide (unhide HSN i (by first | exact him | omega))
      rcases unhide HD with h | ⟨bb, bo, rfl, hbb, hbc⟩
      · omega
      have hst := hbc i him
      clear hbc
      obtain ⟨⟨v1, v2, v3⟩, hv⟩ : ∃ v, vA S i = v := ⟨_, rfl⟩
      rw [hv] at hst HHI HSI hwd
      clear hv
      have HVC := hide hst
      clear hst
      generalize hitsOf L a b c d S n i = hc0 at *
      go_wp2_with fail
      go_loopw [9, 11, 12] (fun cc id kk wr => ∃ k : Nat, k ≤ n ∧ kk = .int .i64 k ∧ cc = .int .i64 ((hc0 + hitsTo L a b c d (v1, v2, v3) k : Nat) : Int) ∧ id = .int .i64 (idTo L a b c d (v1, v2, v3) k) ∧ Hid (wr.ownsRow (w.heap.size + 1) 2 1 u8 (idsL L a b c d (S.take i)).length (intL (idsL L a b c d (S.take i)))) ∧ Hid (TurnAt wr w.heap.size a b c d) ∧ Hid (Below w.heap.size w wr) ∧ w.heap.size + 1 ≤ wr.heap.size) (fun _ _ kk _ => n - (intOf kk).toNat)
      case atStart => exact ⟨0, by omega, rfl, by rfl, rfl, HO, HT, HB, hlow⟩
      case round =>
        clear HO HT HB hlow
        obtain ⟨k, hk, rfl, rfl, rfl, HO, HT, HB, hlow⟩ := hrel
        by_cases hkn : k < n
        · have hkn2 : (k : Int) < (n : Int) := by omega
          rcases unhide HS with h0 | ⟨sb, so, rfl, hsb, hsc⟩
          · omega
          have hst := (hsc k hkn).kept hsb (unhide HB)
          clear hsc
          have hvt := (unhide HVC).kept hbb (unhide HB)
          have hsm := unhide HSM k hkn
          have hhk := hitsTo_le L a b c d (v1, v2, v3) k
          have HHK : Hid (hitsTo L a b c d (v1, v2, v3) (k + 1) = hitsTo L a b c d (v1, v2, v3) k + if sameD (v1, v2, v3) (apD a b c d (stA L k).2) = true then 1 else 0) := hide rfl
          have HID : Hid (idTo L a b c d (v1, v2, v3) (k + 1) = if sameD (v1, v2, v3) (apD a b c d (stA L k).2) = true then (stA L k).1 else idTo L a b c d (v1, v2, v3) k) := hide rfl
          obtain ⟨⟨s1, s2, s3, s4⟩, hs⟩ : ∃ s, stA L k = s := ⟨_, rfl⟩
          rw [hs] at hst hsm HID HHK
          clear hs
          obtain ⟨c0, c1, c2, c3⟩ := hst
          obtain ⟨d0, d1, d2⟩ := hvt
          obtain ⟨e0, e1, e2, e3⟩ := unhide HT
          have HID' : Hid (idTo L a b c d (v1, v2, v3) (k + 1) = if sameD (v1, v2, v3) (apD a b c d (s2, s3, s4)) = true then s1 else idTo L a b c d (v1, v2, v3) k) := HID
          have HHK' : Hid (hitsTo L a b c d (v1, v2, v3) (k + 1) = hitsTo L a b c d (v1, v2, v3) k + if sameD (v1, v2, v3) (apD a b c d (s2, s3, s4)) = true then 1 else 0) := HHK
          have cA := hide (fun W => l03Apply_small a b c d (s2, s3, s4) W (unhide HRT) hsm)
          have cS := hide (fun W => l02Same_within (apD a b c d (s2, s3, s4)) (v1, v2, v3) W (apD_within (unhide HRT) hsm) (wide_million hwd))
          clear HID HHK hsm
          generalize apD a b c d (s2, s3, s4) = q at *
          obtain ⟨q1, q2, q3⟩ := q
          generalize sameD (v1, v2, v3) (q1, q2, q3) = sm at *
          generalize hitsTo L a b c d (v1, v2, v3) k = hk0 at *
          generalize hiv : idTo L a b c d (v1, v2, v3) k = idv at *
          clear hiv
          simp only at cA cS
          have r0 := cell_regrown c0
          have r1 := cell_regrown c1
          have r2 := cell_regrown c2
          have r3 := cell_regrown c3
          have x0 := cell_regrown d0
          have x1 := cell_regrown d1
          have x2 := cell_regrown d2
          have y0 := cell_regrown e0
          have y1 := cell_regrown e1
          have y2 := cell_regrown e2
          have y3 := cell_regrown e3
          have HC0 := hide c0
          clear c0 c1 c2 c3 d0 d1 d2 e0 e1 e2 e3
          go_wp2_with fail
          refine wp_region_quiet_below (by kernel_rfl) (by kernel_rfl) ?_
          repeat (go_big_quiet_step (first | (with_reducible exact Calls.regrown_of (unhide cA _)) | (with_reducible exact Calls.regrown_of (unhide cS _))))
          refine wpQuiet_nil ?_
          intro _ hw'
          obtain ⟨⟨dq, osq⟩, hw''⟩ := hw'
          subst hw''
          have hx := below_regrown wr dq osq
          have HO3 := hide (oKept (unhide HO) hx)
          have HT3 := hide ((unhide HT).kept (unhide HT).lt hx)
          have HB3 := hide (below_call (unhide HB) hx)
          have hlow3 := Nat.le_trans hlow hx.size
          have c0 := r0 dq osq
          generalize grow (redrawn wr dq) osq = W3 at hx HO3 HT3 HB3 hlow3 c0 ⊢
          clear hx cA cS r0 r1 r2 r3 x0 x1 x2 y0 y1 y2 y3 HO HT HB hlow
          cases sm
          · rw [if_neg (by simp)] at HID' HHK'
            go_wp2_with fail
            go_roundw
            case rel => exact ⟨k + 1, by omega, by go_num, by rw [unhide HHK']; rfl, by rw [unhide HID'], HO3, HT3, HB3, hlow3⟩
            case measure => simp [intOf]; omega
          · rw [if_pos rfl] at HID' HHK'
            go_wp2_with fail
            go_roundw
            case rel => exact ⟨k + 1, by omega, by go_num, by rw [unhide HHK']; go_num, by rw [unhide HID'], HO3, HT3, HB3, hlow3⟩
            case measure => simp [intOf]; omega
        · have hkn' : k = n := by omega
          subst hkn'
          have hhk := hitsTo_le L a b c d (v1, v2, v3) k
          have HCC : Hid ((hc0 + hitsTo L a b c d (v1, v2, v3) k : Nat) = hitsOf L a b c d S k (i + 1)) := hide (unhide HHI).symm
          have hli : (idsL L a b c d (S.take i)).length ≤ 6 := by unfold idsL; rw [List.length_map]; have := List.length_take_le i S; omega
          rw [unhide HCC]
          generalize idTo L a b c d (v1, v2, v3) k = idv at *
          generalize hce : hitsOf L a b c d S k (i + 1) = hcn at *
          have HCE := hide hce
          clear hce
          have Z1 := below1 wr (.cells #[.int .i64 idv] 2)
          have hown := oKept (unhide HO) Z1
          have B3 := below_call (unhide HB) Z1
          have T3 := (unhide HT).kept (unhide HT).lt Z1
          clear Z1 HO HB HT
          generalize idsL L a b c d (S.take i) = Pk at *
          go_wp2_with (at_builtin; refine wpList_append_own _ rfl _ _ 74 rfl (w.heap.size + 1) 2 i0 (.int .i64 0) 1 8 Tryz.underlying74 hinf hz0 hz1 hz2 rfl (by decide) _ _ _ rfl hown ⟨wr.heap.size, 0, none⟩ 1 1 (intL [idv]) rfl rfl ?d2 (fun u hu => intL_cell hu) ?d3 ?d4 ?d5 ?_)
          case d2 => first | exact fun j u h => h | exact new_cells _ _ _
          case d3 => omega
          case d4 => omega
          case d5 => first | omega | (simp; omega)
          intro v7 V7 hown7 hgrow7 _
          have ne : ∀ z, z < w.heap.size + 1 → some z ≠ u8.ownBlock := fun z hz e => by have := (hown.lt z e.symm).1; omega
          have HB8 : Hid (Below w.heap.size w V7) := hide (B3.trans ⟨hgrow7.os, hgrow7.tape, hgrow7.output, hgrow7.size, fun z hz => hgrow7.block z (by simp; omega) (ne z (by omega))⟩)
          have HT8 := hide (T3.same (hgrow7.block w.heap.size (by simp; omega) (ne _ (by omega))))
          have HO8 : Hid (V7.ownsRow (w.heap.size + 1) 2 1 v7 (idsL L a b c d (S.take (i + 1))).length (intL (idsL L a b c d (S.take (i + 1))))) := hide (by
            rw [unhide HSI, List.length_append]
            unfold intL
            rw [List.map_append]
            exact hown7)
          have hlow8 : w.heap.size + 1 ≤ V7.heap.size := by have := hgrow7.size; simp at this; omega
          clear hown7 hgrow7 hown B3 T3 ne
          go_wp2_with fail
          go_roundw
          case rel => exact ⟨i + 1, by omega, by go_num, by rw [unhide HCE], HO8, HT8, HB8, hlow8⟩
          case measure => simp [intOf]; omega
    · have him' : i = m := by omega
      subst him'
      rw [unhide HAL] at HO
      go_wp2_with fail
      exact bodyPost_ret (v := .tuple #[u8, .int .i64 (hitsOf L a b c d S n i : Int)]) (by simp [results, Tryz.results42, go_sem]) rfl ⟨⟨_, rfl, oLower (unhide HO) (by omega)⟩, unhide HB⟩
end Go.Proofs.YtjdehbpgdplolaaGreatDoor

namespace Go.Proofs.YtjdehbpgdplolaaGreatDoor
open Go.RowKit Go.Sort
set_option linter.unusedVariables false

theorem ordI_sgn (x : Int) : sgn x = ordI x 0 := rfl
theorem det_right {p q r : D3} (hp : rightB p.1 p.2.1 p.2.2 = true) (hq : rightB q.1 q.2.1 q.2.2 = true) (hr : rightB r.1 r.2.1 r.2.2 = true) :
    detD p q r = dotW (crW p.2.1 p.2.2 q.2.1 q.2.2) (crW p.2.2 p.1 q.2.2 q.1) (crW p.1 p.2.1 q.1 q.2.1) r.1 r.2.1 r.2.2 := by
  unfold detD detI
  rw [hp, hq, hr]
  rfl
/-- the three calls that tell a side -/
theorem det_calls (p q r : D3) (hp : rightB p.1 p.2.1 p.2.2 = true) (hq : rightB q.1 q.2.1 q.2.2 = true) (hr : rightB r.1 r.2.1 r.2.2 = true) : ∃ (x1 x2 x3 d : Int),
    Hid (∀ W : World, Calls Tryz.prog 64 #[.agg #[.int .i64 p.1, .int .i64 p.2.1, .int .i64 p.2.2], .agg #[.int .i64 q.1, .int .i64 q.2.1, .int .i64 q.2.2]] W fun e w' => e = .returned (.agg #[.int .i64 x1, .int .i64 x2, .int .i64 x3]) ∧ Below W.heap.size W w')
    ∧ Hid (∀ W : World, Calls Tryz.prog 65 #[.agg #[.int .i64 x1, .int .i64 x2, .int .i64 x3], .agg #[.int .i64 r.1, .int .i64 r.2.1, .int .i64 r.2.2]] W fun e w' => e = .returned (.int .i64 d) ∧ Below W.heap.size W w')
    ∧ Hid (∀ W : World, Calls Tryz.prog 101 #[.int .i64 d] W fun e w' => e = .returned (.int .i64 (ordI (detD p q r) 0)) ∧ Below W.heap.size W w') := by
  refine ⟨_, _, _, _, hide (fun W => l02Cross_any _ _ _ _ _ _ W), hide (fun W => l02Dot_any _ _ _ _ _ _ W), hide (fun W => (l02Sign_any _ W).mono fun e w' h => ?_)⟩
  obtain ⟨he, hw⟩ := h
  refine ⟨?_, by rw [hw]; exact Below.refl _ _⟩
  rw [he, det_right hp hq hr]
  rfl
theorem cos_call (p q r s : D3) (hp : wideD p = true) (hq : wideD q = true) (hr : smallB r.1 r.2.1 r.2.2 = true) (hs : smallB s.1 s.2.1 s.2.2 = true) (W : World) :
    Calls Tryz.prog 100 #[.agg #[.int .i64 p.1, .int .i64 p.2.1, .int .i64 p.2.2], .agg #[.int .i64 q.1, .int .i64 q.2.1, .int .i64 q.2.2], .agg #[.int .i64 r.1, .int .i64 r.2.1, .int .i64 r.2.2], .agg #[.int .i64 s.1, .int .i64 s.2.1, .int .i64 s.2.2]] W fun e w' => e = .returned (.int .i64 (cosI p.1 p.2.1 p.2.2 q.1 q.2.1 q.2.2 r.1 r.2.1 r.2.2 s.1 s.2.1 s.2.2)) ∧ Below W.heap.size W w' := by
  rw [cos_eq2 hp hq hr hs]
  exact l02Cos_any _ _ _ _ _ _ _ _ _ _ _ _ W
def stepI (L : List St) (S : List D3) (ids : List Int) (s : Sg) (i : Nat) : Bool := decide (ids.getD i 0 = 0) || (decide (s.2.1 ≠ ids.getD i 0) && farB s (sgOf L S ids i) && (List.range i).all (fun j => decide (ids.getD j 0 = 0) || sideB s (sgOf L S ids j) (sgOf L S ids i)))
theorem fitsI_yes {L : List St} {S : List D3} {ids : List Int} {s : Sg} {n : Nat} (h : ∀ i, i < n → stepI L S ids s i = true) : fitsI L S ids s n = true := by
  unfold fitsI
  rw [List.all_eq_true]
  exact fun i hi => h i (List.mem_range.1 hi)
theorem fitsI_no {L : List St} {S : List D3} {ids : List Int} {s : Sg} {n i : Nat} (hi : i < n) (h : stepI L S ids s i = false) : fitsI L S ids s n = false := by
  unfold fitsI
  rw [List.all_eq_false]
  exact ⟨i, List.mem_range.2 hi, by unfold stepI at h; rw [h]; simp⟩
theorem stepI_zero {L : List St} {S : List D3} {ids : List Int} {s : Sg} {i : Nat} (h : ids.getD i 0 = 0) : stepI L S ids s i = true := by unfold stepI; rw [decide_eq_true h, Bool.true_or]
theorem stepI_same {L : List St} {S : List D3} {ids : List Int} {s : Sg} {i : Nat} (h : ids.getD i 0 ≠ 0) (h1 : s.2.1 = ids.getD i 0) : stepI L S ids s i = false := by
  unfold stepI
  rw [decide_eq_false h, Bool.false_or, show decide (s.2.1 ≠ ids.getD i 0) = false from decide_eq_false (fun g => g h1)]
  rfl
theorem stepI_far {L : List St} {S : List D3} {ids : List Int} {s : Sg} {i : Nat} (h : ids.getD i 0 ≠ 0) (h1 : farB s (sgOf L S ids i) = false) : stepI L S ids s i = false := by
  unfold stepI
  rw [decide_eq_false h, Bool.false_or, h1, Bool.and_false]
  rfl
theorem stepI_side {L : List St} {S : List D3} {ids : List Int} {s : Sg} {i j : Nat} (h : ids.getD i 0 ≠ 0) (hj : j < i) (h0 : ids.getD j 0 ≠ 0) (h1 : sideB s (sgOf L S ids j) (sgOf L S ids i) = false) : stepI L S ids s i = false := by
  unfold stepI
  have : ((List.range i).all fun j => decide (ids.getD j 0 = 0) || sideB s (sgOf L S ids j) (sgOf L S ids i)) = false := by
    rw [List.all_eq_false]
    exact ⟨j, List.mem_range.2 hj, by rw [decide_eq_false h0, h1]; simp⟩
  rw [decide_eq_false h, Bool.false_or, this, Bool.and_false]
theorem stepI_yes {L : List St} {S : List D3} {ids : List Int} {s : Sg} {i : Nat} (h1 : s.2.1 ≠ ids.getD i 0) (h2 : farB s (sgOf L S ids i) = true) (h3 : ∀ j, j < i → (decide (ids.getD j 0 = 0) || sideB s (sgOf L S ids j) (sgOf L S ids i)) = true) : stepI L S ids s i = true := by
  unfold stepI
  rw [decide_eq_true h1, h2, show ((List.range i).all fun j => decide (ids.getD j 0 = 0) || sideB s (sgOf L S ids j) (sgOf L S ids i)) = true from List.all_eq_true.2 (fun j hj => h3 j (List.mem_range.1 hj))]
  simp
def sidesTo (L : List St) (S : List D3) (ids : List Int) (s : Sg) (i j : Nat) : Prop := ∀ l, l < j → (decide (ids.getD l 0 = 0) || sideB s (sgOf L S ids l) (sgOf L S ids i)) = true
theorem sides_step {L : List St} {S : List D3} {ids : List Int} {s : Sg} {i j : Nat} (h : sidesTo L S ids s i j) (h1 : (decide (ids.getD j 0 = 0) || sideB s (sgOf L S ids j) (sgOf L S ids i)) = true) : sidesTo L S ids s i (j + 1) := fun l hl => by
  by_cases e : l = j
  · rw [e]; exact h1
  · exact h l (by omega)
theorem sides_none (L : List St) (S : List D3) (ids : List Int) (s : Sg) (i : Nat) : sidesTo L S ids s i 0 := fun j hj => absurd hj (Nat.not_lt_zero _)
set_option maxHeartbeats 4000000 in
set_option maxRecDepth 100000 in
theorem l06Fits_any (L : List St) (S : List D3) (ids : List Int) (k : Nat) (id : Int) (ar br ir : Option Addr) (cr dr er : Nat) (w : World) (hk6 : k ≤ 6) (hn : L.length ≤ 12) (hS : Stars w ar L L.length) (hD : Dirs w br S (k + 1)) (hI : Nums w ir ids k)
    (hwd : ∀ i, i ≤ k → wideD (vA S i) = true) (hid : smallB (atV L L.length id).1 (atV L L.length id).2.1 (atV L L.length id).2.2 = true) (hids : ∀ i, i < k → ids.getD i 0 ≠ 0 → smallB (atV L L.length (ids.getD i 0)).1 (atV L L.length (ids.getD i 0)).2.1 (atV L L.length (ids.getD i 0)).2.2 = true) :
    Calls Tryz.prog 83 #[.slice ar L.length cr, .slice br (k + 1) dr, .slice ir k er, .int .i64 id] w fun e w' => e = .returned (.bool (fitsI L S ids (vA S k, (id, atV L L.length id)) k)) ∧ Below w.heap.size w w' := by
  have cA := hide (fun (W : World) (q : Int) hW => l04At_any L L.length q ar cr W (by omega) hW)
  have HS := hide hS
  have HD := hide hD
  have HWD := hide hwd
  have HDS := hide hids
  have HSO : Hid (∀ i, sgOf L S ids i = (vA S i, (ids.getD i 0, atV L L.length (ids.getD i 0)))) := hide (fun i => rfl)
  clear hS hD hwd hids
  obtain ⟨⟨p1, p2, p3⟩, hp⟩ : ∃ p, vA S k = p := ⟨_, rfl⟩
  obtain ⟨⟨q1, q2, q3⟩, hq⟩ : ∃ p, atV L L.length id = p := ⟨_, rfl⟩
  obtain ⟨sg, hsg⟩ : ∃ sg : Sg, sg = ((p1, p2, p3), (id, q1, q2, q3)) := ⟨_, rfl⟩
  have cV := hide (fun (W : World) hW => unhide cA W id hW)
  rw [hq] at hid cV
  have HWK : Hid (wideD (p1, p2, p3) = true) := hide (by rw [← hp]; exact unhide HWD k (Nat.le_refl _))
  have HIDS := hide hid
  rw [hp, hq, ← hsg]
  have HSG := hide hsg
  have HP := hide hp
  clear hp hq hsg hid
  generalize L.length = n at *
  go_enter Tryz.func83, Tryz.ntmps83
  go_wp2_with fail
  refine (unhide cV _ (unhide HS)).mono ?_
  rintro e W1 ⟨rfl, hx⟩
  unfold vecV
  simp only
  have Z := below1 W1 (.cells #[.int .i64 q1, .int .i64 q2, .int .i64 q3] 54)
  have HB1 := hide (below_call hx Z)
  have HV1 := hide (vecAt_new W1 q1 q2 q3 54)
  clear hx Z cV
  go_wp2_with fail
  generalize W1.alloc (.cells #[.int .i64 q1, .int .i64 q2, .int .i64 q3] 54) = W2 at HB1 HV1 ⊢
  generalize W1.heap.size = vb at *
  rcases hI with h0 | ⟨ib, io, rfl, hib, hic⟩
  · subst h0
    refine wp_loop_rounds 1 ?_
    rw [rounds_succ]
    go_wp2_with fail
    go_ret
    exact ⟨rfl, unhide HB1⟩
  have HIC := hide hic
  clear hic
  rcases unhide HD with h | ⟨bb, bo, rfl, hbb, hbc⟩
  · omega
  have HBC := hide hbc
  clear hbc
  go_loopw [11] (fun kk wr => ∃ i : Nat, i ≤ k ∧ kk = .int .i64 i ∧ Hid (∀ j, j < i → stepI L S ids sg j = true) ∧ Hid (VecAt wr vb q1 q2 q3) ∧ Hid (Below w.heap.size w wr)) (fun kk _ => k - (intOf kk).toNat)
  case atStart => exact ⟨0, by omega, rfl, hide (fun j hj => absurd hj (Nat.not_lt_zero _)), HV1, HB1⟩
  case round =>
    clear HV1 HB1
    obtain ⟨i, hi, rfl, HF, HV, HB⟩ := hrel
    by_cases hik : i < k
    · have hik2 : (i : Int) < (k : Int) := by omega
      have ci : wr.cell? ⟨ib, io + i, none⟩ = some (.int .i64 (ids.getD i 0)) := by rw [(unhide HB).cell (p := ⟨ib, io + i, none⟩) hib]; exact unhide HIC i hik
      have HSI := hide (unhide HSO i)
      obtain ⟨x, hxi⟩ : ∃ x, ids.getD i 0 = x := ⟨_, rfl⟩
      rw [hxi] at ci HSI
      have HX := hide hxi
      clear hxi
      by_cases hx0 : x = 0
      · subst hx0
        have HOK := hide (stepI_zero (L := L) (S := S) (s := sg) (unhide HX))
        go_wp2_with fail
        go_roundw
        case rel => exact ⟨i + 1, by omega, by go_num, hide (fun l hl => by
          by_cases e : l = i
          · rw [e]; exact unhide HOK
          · exact unhide HF l (by omega)), HV, HB⟩
        case measure => simp [intOf] <;> omega
      have hx0' : (x == 0) = false := by simp [hx0]
      have HXN : Hid (ids.getD i 0 ≠ 0) := hide (by rw [unhide HX]; exact hx0)
      by_cases hxd : x = id
      · subst hxd
        have HNO := hide (fitsI_no hik (stepI_same (L := L) (S := S) (s := sg) (unhide HXN) (by rw [unhide HX, unhide HSG])))
        go_wp2_with fail
        go_ret
        exact ⟨by rw [unhide HNO]; rfl, unhide HB⟩
      have hxd' : (x == id) = false := by simp [hxd]
      have HDX : Hid (sg.2.1 ≠ ids.getD i 0) := hide (by rw [unhide HX, unhide HSG]; exact fun e => hxd e.symm)
      have cW := hide (fun (W : World) hW => unhide cA W x hW)
      have hsmx := unhide HDS i hik (unhide HXN)
      rw [unhide HX] at hsmx
      obtain ⟨⟨w1, w2, w3⟩, hwv⟩ : ∃ p, atV L n x = p := ⟨_, rfl⟩
      rw [hwv] at cW hsmx HSI
      clear hwv
      obtain ⟨⟨s1, s2, s3⟩, hsv⟩ : ∃ p, vA S i = p := ⟨_, rfl⟩
      have HSVI := hide hsv
      rw [hsv] at HSI
      have hwi := unhide HWD i (by omega)
      rw [hsv] at hwi
      clear hsv
      go_wp2_with fail
      refine (unhide cW _ ((unhide HS).kept (unhide HB))).mono ?_
      rintro e W3 ⟨rfl, hx⟩
      unfold vecV
      simp only
      have Z := below1 W3 (.cells #[.int .i64 w1, .int .i64 w2, .int .i64 w3] 54)
      have HB3 := hide (below_call (below_call (unhide HB) hx) Z)
      have HV3 := hide (((unhide HV).kept (vltD (unhide HV)) hx).kept (Nat.lt_of_lt_of_le (vltD (unhide HV)) hx.size) Z)
      have HW3 := hide (vecAt_new W3 w1 w2 w3 54)
      clear hx Z cW ci HB HV
      go_wp2_with fail
      generalize W3.alloc (.cells #[.int .i64 w1, .int .i64 w2, .int .i64 w3] 54) = W4 at HB3 HV3 HW3 ⊢
      generalize W3.heap.size = wb at *
      have hsp := (unhide HBC i (by omega)).kept hbb (unhide HB3)
      have hpp := (unhide HBC k (by omega)).kept hbb (unhide HB3)
      rw [unhide HSVI] at hsp
      rw [unhide HP] at hpp
      have cC := hide (fun W => cos_call (s1, s2, s3) (p1, p2, p3) (w1, w2, w3) (q1, q2, q3) hwi (unhide HWK) hsmx (unhide HIDS) W)
      have HFA : Hid (farB sg (sgOf L S ids i) = decide (cosI s1 s2 s3 p1 p2 p3 w1 w2 w3 q1 q2 q3 = 0)) := hide (by rw [unhide HSI, unhide HSG]; rfl)
      generalize cosI s1 s2 s3 p1 p2 p3 w1 w2 w3 q1 q2 q3 = cv at *
      simp only at cC
      obtain ⟨c0, c1, c2⟩ := hsp
      obtain ⟨d0, d1, d2⟩ := hpp
      obtain ⟨e0, e1, e2⟩ := unhide HV3
      obtain ⟨f0, f1, f2⟩ := unhide HW3
      have rc0 := cell_regrown c0
      have rc1 := cell_regrown c1
      have rc2 := cell_regrown c2
      have rd0 := cell_regrown d0
      have rd1 := cell_regrown d1
      have rd2 := cell_regrown d2
      have re0 := cell_regrown e0
      have re1 := cell_regrown e1
      have re2 := cell_regrown e2
      have rf0 := cell_regrown f0
      have rf1 := cell_regrown f1
      have rf2 := cell_regrown f2
      clear c0 c1 c2 d0 d1 d2 e0 e1 e2 f0 f1 f2
      have hik3 : (i : Int) < (k : Int) + 1 := by omega
      have hkk3 : (k : Int) < (k : Int) + 1 := by omega
      refine wp_region_quiet_below (by kernel_rfl) (by kernel_rfl) ?_
      repeat (go_big_quiet_step (first | (with_reducible exact Calls.regrown_of (unhide cC _))))
      refine wpQuiet_nil ?_
      intro _ hw'
      obtain ⟨⟨dq, osq⟩, hw''⟩ := hw'
      subst hw''
      have hx := below_regrown W4 dq osq
      have HB5 := hide (below_call (unhide HB3) hx)
      have HV5 := hide ((unhide HV3).kept (vltD (unhide HV3)) hx)
      have HW5 := hide ((unhide HW3).kept (vltD (unhide HW3)) hx)
      generalize grow (redrawn W4 dq) osq = W5 at hx HB5 HV5 HW5 ⊢
      clear hx rc0 rc1 rc2 rd0 rd1 rd2 re0 re1 re2 rf0 rf1 rf2 cC HB3 HV3 HW3
      by_cases hcv : cv ≠ 0
      · have hcv' : (cv == 0) = false := by simp [hcv]
        have HNO := hide (fitsI_no hik (stepI_far (L := L) (S := S) (s := sg) (unhide HXN) (by rw [unhide HFA]; exact decide_eq_false hcv)))
        go_wp2_with fail
        go_ret
        exact ⟨by rw [unhide HNO]; rfl, unhide HB5⟩
      have hcv0 : cv = 0 := Decidable.not_not.1 hcv
      subst hcv0
      clear hcv
      have HFT : Hid (farB sg (sgOf L S ids i) = true) := hide (by rw [unhide HFA]; rfl)
      clear HFA
      go_wp2_with fail
      go_loopw [13] (fun kk wr => ∃ j : Nat, j ≤ i ∧ kk = .int .i64 j ∧ Hid (sidesTo L S ids sg i j) ∧ Hid (VecAt wr vb q1 q2 q3) ∧ Hid (VecAt wr wb w1 w2 w3) ∧ Hid (Below w.heap.size w wr)) (fun kk _ => i - (intOf kk).toNat)
      case atStart => exact ⟨0, by omega, rfl, hide (sides_none _ _ _ _ _), HV5, HW5, HB5⟩
      case round =>
        clear HV5 HW5 HB5
        obtain ⟨j, hj, rfl, HL, HV, HW, HB⟩ := hrel
        by_cases hji : j < i
        · have hji2 : (j : Int) < (i : Int) := by omega
          have hjk2 : (j : Int) < (k : Int) := by omega
          have ci : wr.cell? ⟨ib, io + j, none⟩ = some (.int .i64 (ids.getD j 0)) := by rw [(unhide HB).cell (p := ⟨ib, io + j, none⟩) hib]; exact unhide HIC j (by omega)
          have HSJ := hide (unhide HSO j)
          obtain ⟨y, hyi⟩ : ∃ x, ids.getD j 0 = x := ⟨_, rfl⟩
          rw [hyi] at ci HSJ
          have HY := hide hyi
          clear hyi
          by_cases hy0 : y = 0
          · subst hy0
            have HOK : Hid ((decide (ids.getD j 0 = 0) || sideB sg (sgOf L S ids j) (sgOf L S ids i)) = true) := hide (by rw [unhide HY]; rfl)
            go_wp2_with fail
            go_roundw
            case rel => exact ⟨j + 1, by omega, by go_num, hide (sides_step (unhide HL) (unhide HOK)), HV, HW, HB⟩
            case measure => simp [intOf] <;> omega
          have hy0' : (y == 0) = false := by simp [hy0]
          have HYN : Hid (ids.getD j 0 ≠ 0) := hide (by rw [unhide HY]; exact hy0)
          have cU := hide (fun (W : World) hW => unhide cA W y hW)
          have hsmy := unhide HDS j (by omega) (unhide HYN)
          rw [unhide HY] at hsmy
          obtain ⟨⟨u1, u2, u3⟩, huv⟩ : ∃ p, atV L n y = p := ⟨_, rfl⟩
          rw [huv] at cU hsmy HSJ
          clear huv
          obtain ⟨⟨t1, t2, t3⟩, htv⟩ : ∃ p, vA S j = p := ⟨_, rfl⟩
          have HTVJ := hide htv
          rw [htv] at HSJ
          have hwj := unhide HWD j (by omega)
          rw [htv] at hwj
          clear htv
          go_wp2_with fail
          refine (unhide cU _ ((unhide HS).kept (unhide HB))).mono ?_
          rintro e W6 ⟨rfl, hx⟩
          unfold vecV
          simp only
          have Z := below1 W6 (.cells #[.int .i64 u1, .int .i64 u2, .int .i64 u3] 54)
          have HB6 := hide (below_call (below_call (unhide HB) hx) Z)
          have HV6 := hide (((unhide HV).kept (vltD (unhide HV)) hx).kept (Nat.lt_of_lt_of_le (vltD (unhide HV)) hx.size) Z)
          have HW6 := hide (((unhide HW).kept (vltD (unhide HW)) hx).kept (Nat.lt_of_lt_of_le (vltD (unhide HW)) hx.size) Z)
          have HU6 := hide (vecAt_new W6 u1 u2 u3 54)
          clear hx Z cU ci HB HV HW
          go_wp2_with fail
          generalize W6.alloc (.cells #[.int .i64 u1, .int .i64 u2, .int .i64 u3] 54) = W7 at HB6 HV6 HW6 HU6 ⊢
          generalize W6.heap.size = ub at *
          have hsp := (unhide HBC i (by omega)).kept hbb (unhide HB6)
          have htp := (unhide HBC j (by omega)).kept hbb (unhide HB6)
          have hpp := (unhide HBC k (by omega)).kept hbb (unhide HB6)
          rw [unhide HSVI] at hsp
          rw [unhide HTVJ] at htp
          rw [unhide HP] at hpp
          obtain ⟨x1, x2, x3, dd, cX, cY, cZ⟩ := det_calls (t1, t2, t3) (s1, s2, s3) (p1, p2, p3) (wide_iff hwj).1 (wide_iff hwi).1 (wide_iff (unhide HWK)).1
          obtain ⟨y1, y2, y3, d2, cX2, cY2, cZ2⟩ := det_calls (u1, u2, u3) (w1, w2, w3) (q1, q2, q3) (small_iff hsmy).1 (small_iff hsmx).1 (small_iff (unhide HIDS)).1
          have HSB : Hid (sideB sg (sgOf L S ids j) (sgOf L S ids i) = decide (ordI (detD (t1, t2, t3) (s1, s2, s3) (p1, p2, p3)) 0 = ordI (detD (u1, u2, u3) (w1, w2, w3) (q1, q2, q3)) 0)) := hide (by rw [unhide HSI, unhide HSJ, unhide HSG]; rfl)
          generalize ordI (detD (t1, t2, t3) (s1, s2, s3) (p1, p2, p3)) 0 = o1 at *
          generalize ordI (detD (u1, u2, u3) (w1, w2, w3) (q1, q2, q3)) 0 = o2 at *
          simp only at cX cY cZ cX2 cY2 cZ2
          obtain ⟨c0, c1, c2⟩ := hsp
          obtain ⟨d0, d1, d2'⟩ := hpp
          obtain ⟨e0, e1, e2⟩ := unhide HV6
          obtain ⟨f0, f1, f2⟩ := unhide HW6
          obtain ⟨g0, g1, g2⟩ := unhide HU6
          obtain ⟨h0, h1, h2⟩ := htp
          have rc0 := cell_regrown c0
          have rc1 := cell_regrown c1
          have rc2 := cell_regrown c2
          have rd0 := cell_regrown d0
          have rd1 := cell_regrown d1
          have rd2 := cell_regrown d2'
          have re0 := cell_regrown e0
          have re1 := cell_regrown e1
          have re2 := cell_regrown e2
          have rf0 := cell_regrown f0
          have rf1 := cell_regrown f1
          have rf2 := cell_regrown f2
          have rg0 := cell_regrown g0
          have rg1 := cell_regrown g1
          have rg2 := cell_regrown g2
          have rh0 := cell_regrown h0
          have rh1 := cell_regrown h1
          have rh2 := cell_regrown h2
          clear c0 c1 c2 d0 d1 d2' e0 e1 e2 f0 f1 f2 g0 g1 g2 h0 h1 h2
          have hjk3 : (j : Int) < (k : Int) + 1 := by omega
          refine wp_region_quiet_below (by kernel_rfl) (by kernel_rfl) ?_
          repeat (go_big_quiet_step (first | (with_reducible exact Calls.regrown_of (unhide cX _)) | (with_reducible exact Calls.regrown_of (unhide cY _)) | (with_reducible exact Calls.regrown_of (unhide cZ _)) | (with_reducible exact Calls.regrown_of (unhide cX2 _)) | (with_reducible exact Calls.regrown_of (unhide cY2 _)) | (with_reducible exact Calls.regrown_of (unhide cZ2 _))))
          refine wpQuiet_nil ?_
          intro _ hw'
          obtain ⟨⟨dq, osq⟩, hw''⟩ := hw'
          subst hw''
          have hx := below_regrown W7 dq osq
          have HB8 := hide (below_call (unhide HB6) hx)
          have HV8 := hide ((unhide HV6).kept (vltD (unhide HV6)) hx)
          have HW8 := hide ((unhide HW6).kept (vltD (unhide HW6)) hx)
          generalize grow (redrawn W7 dq) osq = W8 at hx HB8 HV8 HW8 ⊢
          clear hx rc0 rc1 rc2 rd0 rd1 rd2 re0 re1 re2 rf0 rf1 rf2 rg0 rg1 rg2 rh0 rh1 rh2 cX cY cZ cX2 cY2 cZ2 HB6 HV6 HW6 HU6
          by_cases ho : o1 = o2
          · subst ho
            have HOK : Hid ((decide (ids.getD j 0 = 0) || sideB sg (sgOf L S ids j) (sgOf L S ids i)) = true) := hide (by rw [unhide HSB]; simp)
            go_wp2_with fail
            go_roundw
            case rel => first | exact ⟨j + 1, by omega, by go_num, hide (sides_step (unhide HL) (unhide HOK)), HV8, HW8, HB8⟩ | exact ⟨j + 1, by omega, by omega, hide (sides_step (unhide HL) (unhide HOK))⟩
            case measure => simp [intOf] <;> omega
          · have ho' : (o1 == o2) = false := by simp [ho]
            have HNO := hide (fitsI_no hik (stepI_side (L := L) (S := S) (s := sg) (unhide HXN) hji (unhide HYN) (by rw [unhide HSB]; exact decide_eq_false ho)))
            go_wp2_with fail
            go_ret
            exact ⟨by rw [unhide HNO]; rfl, unhide HB8⟩
        · have hji' : j = i := by omega
          subst hji'
          have HOK := hide (stepI_yes (unhide HDX) (unhide HFT) (unhide HL))
          go_wp2_with fail
          go_roundw
          case rel => exact ⟨j + 1, by omega, by go_num, hide (fun l hl => by
            by_cases e : l = j
            · rw [e]; exact unhide HOK
            · exact unhide HF l (by omega)), HV, HB⟩
          case measure => simp [intOf] <;> omega
    · have hik' : i = k := by omega
      subst hik'
      have HY := hide (fitsI_yes (unhide HF))
      go_wp2_with fail
      go_ret
      exact ⟨by rw [unhide HY]; rfl, unhide HB⟩
theorem namedI_yes {L : List St} {S : List D3} {ids : List Int} {n : Nat} (h : ∀ i, i < n → (decide (ids.getD i 0 = 0) || (!zeroD (atV L L.length (ids.getD i 0)) && fitsI L S ids (sgOf L S ids i) i)) = true) : namedI L S ids n = true := by
  unfold namedI
  rw [List.all_eq_true]
  exact fun i hi => h i (List.mem_range.1 hi)
theorem namedI_no {L : List St} {S : List D3} {ids : List Int} {n i : Nat} (hi : i < n) (h : (decide (ids.getD i 0 = 0) || (!zeroD (atV L L.length (ids.getD i 0)) && fitsI L S ids (sgOf L S ids i) i)) = false) : namedI L S ids n = false := by
  unfold namedI
  rw [List.all_eq_false]
  exact ⟨i, List.mem_range.2 hi, by rw [h]; simp⟩
def namedTo (L : List St) (S : List D3) (ids : List Int) (n : Nat) : Prop := ∀ i, i < n → (decide (ids.getD i 0 = 0) || (!zeroD (atV L L.length (ids.getD i 0)) && fitsI L S ids (sgOf L S ids i) i)) = true
theorem namedTo_step {L : List St} {S : List D3} {ids : List Int} {n : Nat} (h : namedTo L S ids n) (h1 : (decide (ids.getD n 0 = 0) || (!zeroD (atV L L.length (ids.getD n 0)) && fitsI L S ids (sgOf L S ids n) n)) = true) : namedTo L S ids (n + 1) := fun l hl => by
  by_cases e : l = n
  · rw [e]; exact h1
  · exact h l (by omega)
theorem namedTo_none (L : List St) (S : List D3) (ids : List Int) : namedTo L S ids 0 := fun j hj => absurd hj (Nat.not_lt_zero _)
theorem namedTo_small {L : List St} {S : List D3} {ids : List Int} {n : Nat} (hk : skyB L = true) (h : namedTo L S ids n) (i : Nat) (hi : i < n) (h0 : ids.getD i 0 ≠ 0) : smallB (atV L L.length (ids.getD i 0)).1 (atV L L.length (ids.getD i 0)).2.1 (atV L L.length (ids.getD i 0)).2.2 = true := by
  have h1 := h i hi
  rw [decide_eq_false h0, Bool.false_or, Bool.and_eq_true] at h1
  exact at_small hk (by simpa using h1.1)
theorem Dirs.sub {w : World} {a : Option Addr} {L : List D3} {n m : Nat} (h : Dirs w a L n) (hm : m ≤ n) : Dirs w a L m := h.less hm
theorem Nums.less {w : World} {a : Option Addr} {L : List Int} {n m : Nat} (h : Nums w a L n) (hm : m ≤ n) : Nums w a L m := by
  rcases h with h | ⟨b, o, ha, hb, hc⟩
  · exact .inl (by omega)
  · exact .inr ⟨b, o, ha, hb, fun i hi => hc i (by omega)⟩
end Go.Proofs.YtjdehbpgdplolaaGreatDoor

namespace Go.Proofs.YtjdehbpgdplolaaGreatDoor
open Go.RowKit Go.Sort
set_option linter.unusedVariables false

theorem named_is {L : List St} {S : List D3} {ids : List Int} (h1 : skyB L = true) (h2 : spotsB S = true) : (decide (ids.length = S.length) && namedI L S ids ids.length) = namedB L S ids := by
  unfold namedB
  rw [h1, h2, named_eq]
  rfl
theorem named_long {L : List St} {S : List D3} {ids : List Int} (h : 6 < ids.length) : namedB L S ids = false := by
  cases h2 : spotsB S
  · exact named_no2 h2
  · exact named_no3 (by have := (spots_ok h2).1; omega)
end Go.Proofs.YtjdehbpgdplolaaGreatDoor

namespace Go.Proofs.YtjdehbpgdplolaaGreatDoor
open Go.RowKit Go.Deep Go.ChangeShapes
set_option linter.unusedVariables false

theorem vA_range (n : Nat) (f : Nat → D3) {i : Nat} (h : i < n) : vA ((List.range n).map f) i = f i := by
  unfold vA
  rw [List.getD_eq_getElem?_getD, List.getElem?_map, List.getElem?_range h]
  rfl
theorem cellsDV : Tryz.prog.cellsOf 56 = 3 := by kernel_rfl
theorem cellsDI : Tryz.prog.cellsOf 2 = 1 := by kernel_rfl
theorem spot_noneD {w : World} {x : Addr} {v : Value} (h : w.cell? x = some v) : x.spot = none := by
  cases hs : x.spot with
  | none => rfl
  | some k =>
    exfalso
    unfold World.cell? at h
    rw [hs] at h
    revert h
    split <;> simp
set_option maxRecDepth 100000 in
theorem open_dirs {H : Type} {enc : TypeId × Value → H} {w : World} {fuel : Nat} {a : Option Addr} {len cap : Nat} {x : DataW H × List MemPlace}
    (h : DataW.trod enc Tryz.prog w 0 (fun _ => true) true fuel 27 [.slice a len cap] = some x) : ∃ L : List D3, L.length = len ∧ Dirs w a L len ∧ len ≤ maxLen := by
  rcases open_slice Tryz.underlying27 h with ⟨hcs, _⟩ | ⟨a', l, c, m, n, D, Pl, hcs, _, hl, hm, hmm, _, hel⟩
  · simp at hcs
    obtain ⟨rfl, rfl, rfl⟩ := hcs
    exact ⟨[], rfl, .inl rfl, Nat.zero_le _⟩
  · simp at hcs
    obtain ⟨rfl, rfl, rfl⟩ := hcs
    have hlm : len ≤ m := by rw [hmm]; simp; exact hl
    have each : ∀ i, i < len → ∃ s : D3, w.cell? (a'.add (i * 3)) = some (.int .i64 s.1) ∧ w.cell? (a'.add (i * 3 + 1)) = some (.int .i64 s.2.1) ∧ w.cell? (a'.add (i * 3 + 2)) = some (.int .i64 s.2.2) := by
      intro i hi
      obtain ⟨cs, h1, h2⟩ := hel i (by omega)
      rw [cellsDV] at h1
      obtain ⟨_, hlen, hcell⟩ := World.cells?_some h1
      match cs, hlen with
      | [v1, v2, v3], _ =>
        obtain ⟨z0, z1, z2, n2, _, _, k0, k1, k2⟩ := trod_struct3 Tryz.underlying56 h2
        have k0' : DataW.trod enc Tryz.prog w 0 (fun _ => true) true n2 2 (([v1, v2, v3].drop 0).take (Tryz.prog.cellsOf 2)) = some z0 := k0
        have k1' : DataW.trod enc Tryz.prog w 0 (fun _ => true) true n2 2 (([v1, v2, v3].drop 1).take (Tryz.prog.cellsOf 2)) = some z1 := k1
        have k2' : DataW.trod enc Tryz.prog w 0 (fun _ => true) true n2 2 (([v1, v2, v3].drop 2).take (Tryz.prog.cellsOf 2)) = some z2 := k2
        rw [cellsDI] at k0' k1' k2'
        obtain ⟨i1, e1, _, _⟩ := DataW.trod_int Tryz.underlying2 k0'
        obtain ⟨i2, e2, _, _⟩ := DataW.trod_int Tryz.underlying2 k1'
        obtain ⟨i3, e3, _, _⟩ := DataW.trod_int Tryz.underlying2 k2'
        simp at e1 e2 e3
        subst e1 e2 e3
        have c0 := hcell 0 (by omega)
        have c1 := hcell 1 (by omega)
        have c2 := hcell 2 (by omega)
        rw [add_add] at c0 c1 c2
        exact ⟨(i1, i2, i3), by simpa using c0, by simpa using c1, by simpa using c2⟩
    obtain ⟨f, hf⟩ := choose_lt each
    refine ⟨(List.range len).map f, by simp, ?_, by omega⟩
    rcases Nat.eq_zero_or_pos len with h0 | h0
    · exact .inl h0
    · have hs : (a'.add (0 * 3)).spot = none := spot_noneD (hf 0 h0).1
      have hb : (a'.add (0 * 3)).block < w.heap.size := World.block_lt_of_cell? w _ (hf 0 h0).1
      obtain ⟨bx, ox, sx⟩ := a'
      have hs' : sx = none := by simpa [Addr.add] using hs
      subst hs'
      have hA : ∀ j, (⟨bx, ox, none⟩ : Addr).add j = ⟨bx, ox + j, none⟩ := fun j => by unfold Addr.add; split <;> simp_all
      refine .inr ⟨bx, ox, rfl, by simpa [Addr.add] using hb, fun i hi => ?_⟩
      obtain ⟨c0, c1, c2⟩ := hf i hi
      rw [hA] at c0 c1 c2
      rw [vA_range len f hi]
      exact ⟨c0, by rw [Nat.add_assoc]; exact c1, by rw [Nat.add_assoc]; exact c2⟩
end Go.Proofs.YtjdehbpgdplolaaGreatDoor

namespace Go.Proofs.YtjdehbpgdplolaaGreatDoor
open Go.RowKit Go.Deep Go.ChangeShapes
set_option linter.unusedVariables false

theorem nums_range (n : Nat) (f : Nat → Int) {i : Nat} (h : i < n) : ((List.range n).map f).getD i 0 = f i := by
  rw [List.getD_eq_getElem?_getD, List.getElem?_map, List.getElem?_range h]
  rfl
set_option maxRecDepth 100000 in
theorem open_nums {H : Type} {enc : TypeId × Value → H} {w : World} {fuel : Nat} {a : Option Addr} {len cap : Nat} {x : DataW H × List MemPlace}
    (h : DataW.trod enc Tryz.prog w 0 (fun _ => true) true fuel 74 [.slice a len cap] = some x) : ∃ L : List Int, L.length = len ∧ Nums w a L len ∧ len ≤ maxLen := by
  rcases open_slice Tryz.underlying74 h with ⟨hcs, _⟩ | ⟨a', l, c, m, n, D, Pl, hcs, _, hl, hm, hmm, _, hel⟩
  · simp at hcs
    obtain ⟨rfl, rfl, rfl⟩ := hcs
    exact ⟨[], rfl, .inl rfl, Nat.zero_le _⟩
  · simp at hcs
    obtain ⟨rfl, rfl, rfl⟩ := hcs
    have hlm : len ≤ m := by rw [hmm]; simp; exact hl
    have each : ∀ i, i < len → ∃ z : Int, w.cell? (a'.add i) = some (.int .i64 z) := by
      intro i hi
      obtain ⟨cs, h1, h2⟩ := hel i (by omega)
      rw [cellsDI] at h1
      obtain ⟨_, hlen, hcell⟩ := World.cells?_some h1
      match cs, hlen with
      | [v1], _ =>
        obtain ⟨i1, e1, _, _⟩ := DataW.trod_int Tryz.underlying2 h2
        simp at e1
        subst e1
        have c0 := hcell 0 (by omega)
        rw [add_add] at c0
        exact ⟨i1, by simpa using c0⟩
    obtain ⟨f, hf⟩ := choose_lt each
    refine ⟨(List.range len).map f, by simp, ?_, by omega⟩
    rcases Nat.eq_zero_or_pos len with h0 | h0
    · exact .inl h0
    · have hs : (a'.add 0).spot = none := spot_noneD (hf 0 h0)
      have hb : (a'.add 0).block < w.heap.size := World.block_lt_of_cell? w _ (hf 0 h0)
      obtain ⟨bx, ox, sx⟩ := a'
      have hs' : sx = none := by simpa [Addr.add] using hs
      subst hs'
      have hA : ∀ j, (⟨bx, ox, none⟩ : Addr).add j = ⟨bx, ox + j, none⟩ := fun j => by unfold Addr.add; split <;> simp_all
      refine .inr ⟨bx, ox, rfl, by simpa [Addr.add] using hb, fun i hi => ?_⟩
      have c0 := hf i hi
      rw [hA] at c0
      rw [nums_range len f hi]
      exact c0
end Go.Proofs.YtjdehbpgdplolaaGreatDoor
