/- MatchAt: the specification's. -/
import Derived.Test.YtdkfbfiofniblaaDoorMaA
import Derived.Test.YtdkfbfiofniblaaDoorIdB
import Derived.Test.YtdkfbfiofniblaaDoorSkyE
import Derived.Test.YtdkfbfiofniblaaDoorTurnB
import Derived.Test.YtdkfbfiofniblaaDoorTsA
namespace Go.Proofs.YtdkfbfiofniblaaDoor
open Go.RowKit Go.Sort
set_option linter.unusedVariables false

def intL (xs : List Int) : List Value := xs.map (fun z => .int .i64 z)
theorem intL_cell {S : List Int} {v : Value} (h : v ∈ intL S) : v.oneCell' = true := by
  unfold intL at h
  rw [List.mem_map] at h
  obtain ⟨p, _, rfl⟩ := h
  rfl
theorem ownI_none (w : World) (B : Nat) (h : B ≤ w.heap.size) : (w.alloc (.cells #[] 2)).ownsRow B 2 1 (.slice (some ⟨w.heap.size, 0, none⟩) 0 0) 0 (intL []) :=
  ⟨rfl, .inr ⟨_, 0, #[], rfl, h, Array.getElem?_push_size, Nat.le_refl _, Nat.zero_le _, rfl, rfl⟩⟩
theorem oLower {w : World} {B B' n m : Nat} {t : TypeId} {v : Value} {xs : List Value} (h : w.ownsRow B t m v n xs) (hb : B' ≤ B) : w.ownsRow B' t m v n xs := by
  obtain ⟨h1, h2⟩ := h
  refine ⟨h1, ?_⟩
  rcases h2 with h2 | ⟨g, cap, cur, e, hg, r⟩
  · exact .inl h2
  · exact .inr ⟨g, cap, cur, e, by omega, r⟩
/-- how many of the first k stars are brought to v -/
def hitsTo (L : List St) (a b c d : Int) (v : D3) : Nat → Nat
  | 0 => 0
  | k + 1 => hitsTo L a b c d v k + if sameD v (apD a b c d (stA L k).2) = true then 1 else 0
/-- how many stars are brought to the first i spots -/
def hitsOf (L : List St) (a b c d : Int) (S : List D3) (n : Nat) : Nat → Nat
  | 0 => 0
  | i + 1 => hitsOf L a b c d S n i + hitsTo L a b c d (vA S i) n
theorem hitsTo_le (L : List St) (a b c d : Int) (v : D3) : ∀ k, hitsTo L a b c d v k ≤ k
  | 0 => Nat.le_refl _
  | k + 1 => by unfold hitsTo; have := hitsTo_le L a b c d v k; split <;> omega
theorem hitsOf_le (L : List St) (a b c d : Int) (S : List D3) (n : Nat) : ∀ i, hitsOf L a b c d S n i ≤ i * n
  | 0 => Nat.zero_le _
  | i + 1 => by unfold hitsOf; have := hitsOf_le L a b c d S n i; have := hitsTo_le L a b c d (vA S i) n; rw [Nat.succ_mul]; omega
def idsL (L : List St) (a b c d : Int) (S : List D3) : List Int := S.map (fun v => idTo L a b c d v L.length)
theorem ids_snoc (L : List St) (a b c d : Int) (S : List D3) (i : Nat) (hi : i < S.length) : idsL L a b c d (S.take (i + 1)) = idsL L a b c d (S.take i) ++ [idTo L a b c d (vA S i) L.length] := by
  have e : S.take (i + 1) = S.take i ++ [vA S i] := by
    rw [List.take_succ_eq_append_getElem hi]
    congr 2
    unfold vA
    rw [List.getD_eq_getElem?_getD, List.getElem?_eq_getElem hi]
    rfl
  unfold idsL
  rw [e, List.map_append]
  rfl
/-- the specification's l02Same, of directions of parts to a million -/
theorem l02Same_within (p q : D3) (w : World) (hp : withinB 1000000 p.1 p.2.1 p.2.2 = true) (hq : withinB 1000000 q.1 q.2.1 q.2.2 = true) :
    Calls Tryd.prog 60 #[.agg #[.int .i64 p.1, .int .i64 p.2.1, .int .i64 p.2.2], .agg #[.int .i64 q.1, .int .i64 q.2.1, .int .i64 q.2.2]] w fun e w' => e = .returned (.bool (sameD q p)) ∧ Below w.heap.size w w' := by
  refine (l02Same_any _ _ _ _ _ _ w).mono fun e w' h => ?_
  have h2 := same_within hp hq
  rw [sameD_comm]
  unfold sameD
  rw [← h2]
  exact h
theorem l03Apply_small (a b c d : Int) (v : D3) (w : World) (ht : rightT a b c d = true) (hv : smallB v.1 v.2.1 v.2.2 = true) :
    Calls Tryd.prog 77 #[.agg #[.int .i64 a, .int .i64 b, .int .i64 c, .int .i64 d], .agg #[.int .i64 v.1, .int .i64 v.2.1, .int .i64 v.2.2]] w fun e w' => e = .returned (.agg #[.int .i64 (apD a b c d v).1, .int .i64 (apD a b c d v).2.1, .int .i64 (apD a b c d v).2.2]) ∧ Below w.heap.size w w' :=
  l03Apply_any a b c d v.1 v.2.1 v.2.2 w (rightT_iff.1 ht).1 (wide_in (small_wideB hv))
theorem wide_million {x y z : Int} (h : wideB x y z = true) : withinB 1000000 x y z = true := by
  have h2 := (rightB_iff.1 (wide_iff h).1).1
  rw [withinB_iff]
  exact h2
set_option maxHeartbeats 4000000 in
set_option maxRecDepth 100000 in
theorem l06Match_any (L : List St) (S : List D3) (ar br : Option Addr) (cr dr : Nat) (a b c d : Int) (w : World) (hk : skyB L = true) (hr : rightT a b c d = true) (hp : spotsB S = true) (hS : Stars w ar L L.length) (hD : Dirs w br S S.length) :
    Calls Tryd.prog 48 #[.slice ar L.length cr, .agg #[.int .i64 a, .int .i64 b, .int .i64 c, .int .i64 d], .slice br S.length dr] w fun e w' => (∃ v, e = .returned (.tuple #[v, .int .i64 (hitsOf L a b c d S L.length S.length : Int)]) ∧ w'.ownsRow w.heap.size 2 1 v (idsL L a b c d S).length (intL (idsL L a b c d S))) ∧ Below w.heap.size w w' := by
  obtain ⟨i0, hinf, hz0, hz1, hz2⟩ := info_parts info_i64
  have hm8 : 1000 ≤ maxLen := by decide +kernel
  have HSM : Hid (∀ j, j < L.length → smallB (stA L j).2.1 (stA L j).2.2.1 (stA L j).2.2.2 = true) := hide (fun j hj => ok_small ((sky_ok hk).2 j hj))
  have HWD : Hid (∀ j, j < S.length → wideD (vA S j) = true) := hide (fun j hj => okV_wide ((spots_ok hp).2 j hj))
  have hn12 := (sky_ok hk).1
  have hm6 := (spots_ok hp).1
  have HSN := hide (ids_snoc L a b c d S)
  have HRT := hide hr
  have HS := hide hS
  have HD := hide hD
  have HAL : Hid (idsL L a b c d (S.take S.length) = idsL L a b c d S) := hide (by rw [List.take_length])
  clear hS hD hk hr hp
  generalize S.length = m at *
  generalize L.length = n at *
  have T0 := turnAt_new w a b c d 48
  have B0 := below1 w (.cells #[.int .i64 a, .int .i64 b, .int .i64 c, .int .i64 d] 48)
  have e1 : (w.alloc (.cells #[.int .i64 a, .int .i64 b, .int .i64 c, .int .i64 d] 48)).heap.size = w.heap.size + 1 := by simp
  have Z := below1 (w.alloc (.cells #[.int .i64 a, .int .i64 b, .int .i64 c, .int .i64 d] 48)) (.cells #[] 2)
  have O0 := ownI_none (w.alloc (.cells #[.int .i64 a, .int .i64 b, .int .i64 c, .int .i64 d] 48)) (w.heap.size + 1) (by omega)
  rw [e1] at O0
  have HT := hide (T0.kept T0.lt Z)
  have HB := hide (below_call B0 Z)
  have HO := hide O0
  have hlow : w.heap.size + 1 ≤ ((w.alloc (.cells #[.int .i64 a, .int .i64 b, .int .i64 c, .int .i64 d] 48)).alloc (.cells #[] 2)).heap.size := by simp
  clear T0 B0 Z O0 e1
  go_enter Tryd.func48, Tryd.ntmps48
  go_wp2_with fail
  generalize (w.alloc (.cells #[.int .i64 a, .int .i64 b, .int .i64 c, .int .i64 d] 48)).alloc (.cells #[] 2) = W0 at HT HB HO hlow ⊢
  go_loopw [8, 9, 10] (fun v cc kk wr => ∃ i : Nat, i ≤ m ∧ kk = .int .i64 i ∧ cc = .int .i64 (hitsOf L a b c d S n i : Int) ∧ Hid (wr.ownsRow (w.heap.size + 1) 2 1 v (idsL L a b c d (S.take i)).length (intL (idsL L a b c d (S.take i)))) ∧ Hid (TurnAt wr w.heap.size a b c d) ∧ Hid (Below w.heap.size w wr) ∧ w.heap.size + 1 ≤ wr.heap.size) (fun _ _ kk _ => m - (intOf kk).toNat)
  case atStart => exact ⟨0, by omega, rfl, rfl, HO, HT, HB, hlow⟩
  case round =>
    clear HO HT HB hlow
    obtain ⟨i, hi, rfl, rfl, HO, HT, HB, hlow⟩ := hrel
    by_cases him : i < m
    · have him2 : (i : Int) < (m : Int) := by omega
      have hhl := hitsOf_le L a b c d S n i
      have hhl2 : hitsOf L a b c d S n i ≤ 100 := by have := Nat.mul_le_mul (show i ≤ 6 by omega) hn12; omega
      have hwd := unhide HWD i him
      have HHI : Hid (hitsOf L a b c d S n (i + 1) = hitsOf L a b c d S n i + hitsTo L a b c d (vA S i) n) := hide rfl
      have HSI := hide (unhide HSN i (by first | exact him | omega))
      rcases unhide HD with h | ⟨bb, bo, rfl, hbb, hbc⟩
      · omega
      have hst := hbc i him
      clear hbc
      obtain ⟨⟨v1, v2, v3⟩, hv⟩ : ∃ v, vA S i = v := ⟨_, rfl⟩
      rw [hv] at hst HHI HSI hwd
      clear hv
      have HVC := hide hst
      clear hst
      generalize hitsOf L a b c d S n i = hc0 at *
      go_wp2_with fail
      go_loopw [9, 11, 12] (fun cc id kk wr => ∃ k : Nat, k ≤ n ∧ kk = .int .i64 k ∧ cc = .int .i64 ((hc0 + hitsTo L a b c d (v1, v2, v3) k : Nat) : Int) ∧ id = .int .i64 (idTo L a b c d (v1, v2, v3) k) ∧ Hid (wr.ownsRow (w.heap.size + 1) 2 1 u8 (idsL L a b c d (S.take i)).length (intL (idsL L a b c d (S.take i)))) ∧ Hid (TurnAt wr w.heap.size a b c d) ∧ Hid (Below w.heap.size w wr) ∧ w.heap.size + 1 ≤ wr.heap.size) (fun _ _ kk _ => n - (intOf kk).toNat)
      case atStart => exact ⟨0, by omega, rfl, by rfl, rfl, HO, HT, HB, hlow⟩
      case round =>
        clear HO HT HB hlow
        obtain ⟨k, hk, rfl, rfl, rfl, HO, HT, HB, hlow⟩ := hrel
        by_cases hkn : k < n
        · have hkn2 : (k : Int) < (n : Int) := by omega
          rcases unhide HS with h0 | ⟨sb, so, rfl, hsb, hsc⟩
          · omega
          have hst := (hsc k hkn).kept hsb (unhide HB)
          clear hsc
          have hvt := (unhide HVC).kept hbb (unhide HB)
          have hsm := unhide HSM k hkn
          have hhk := hitsTo_le L a b c d (v1, v2, v3) k
          have HHK : Hid (hitsTo L a b c d (v1, v2, v3) (k + 1) = hitsTo L a b c d (v1, v2, v3) k + if sameD (v1, v2, v3) (apD a b c d (stA L k).2) = true then 1 else 0) := hide rfl
          have HID : Hid (idTo L a b c d (v1, v2, v3) (k + 1) = if sameD (v1, v2, v3) (apD a b c d (stA L k).2) = true then (stA L k).1 else idTo L a b c d (v1, v2, v3) k) := hide rfl
          obtain ⟨⟨s1, s2, s3, s4⟩, hs⟩ : ∃ s, stA L k = s := ⟨_, rfl⟩
          rw [hs] at hst hsm HID HHK
          clear hs
          obtain ⟨c0, c1, c2, c3⟩ := hst
          obtain ⟨d0, d1, d2⟩ := hvt
          obtain ⟨e0, e1, e2, e3⟩ := unhide HT
          have HID' : Hid (idTo L a b c d (v1, v2, v3) (k + 1) = if sameD (v1, v2, v3) (apD a b c d (s2, s3, s4)) = true then s1 else idTo L a b c d (v1, v2, v3) k) := HID
          have HHK' : Hid (hitsTo L a b c d (v1, v2, v3) (k + 1) = hitsTo L a b c d (v1, v2, v3) k + if sameD (v1, v2, v3) (apD a b c d (s2, s3, s4)) = true then 1 else 0) := HHK
          have cA := hide (fun W => l03Apply_small a b c d (s2, s3, s4) W (unhide HRT) hsm)
          have cS := hide (fun W => l02Same_within (apD a b c d (s2, s3, s4)) (v1, v2, v3) W (apD_within (unhide HRT) hsm) (wide_million hwd))
          clear HID HHK hsm
          generalize apD a b c d (s2, s3, s4) = q at *
          obtain ⟨q1, q2, q3⟩ := q
          generalize sameD (v1, v2, v3) (q1, q2, q3) = sm at *
          generalize hitsTo L a b c d (v1, v2, v3) k = hk0 at *
          generalize hiv : idTo L a b c d (v1, v2, v3) k = idv at *
          clear hiv
          simp only at cA cS
          have r0 := cell_regrown c0
          have r1 := cell_regrown c1
          have r2 := cell_regrown c2
          have r3 := cell_regrown c3
          have x0 := cell_regrown d0
          have x1 := cell_regrown d1
          have x2 := cell_regrown d2
          have y0 := cell_regrown e0
          have y1 := cell_regrown e1
          have y2 := cell_regrown e2
          have y3 := cell_regrown e3
          have HC0 := hide c0
          clear c0 c1 c2 c3 d0 d1 d2 e0 e1 e2 e3
          go_wp2_with fail
          refine wp_region_quiet_below (by kernel_rfl) (by kernel_rfl) ?_
          repeat (go_big_quiet_step (first | (with_reducible exact Calls.regrown_of (unhide cA _)) | (with_reducible exact Calls.regrown_of (unhide cS _))))
          refine wpQuiet_nil ?_
          intro _ hw'
          obtain ⟨⟨dq, osq⟩, hw''⟩ := hw'
          subst hw''
          have hx := below_regrown wr dq osq
          have HO3 := hide (oKept (unhide HO) hx)
          have HT3 := hide ((unhide HT).kept (unhide HT).lt hx)
          have HB3 := hide (below_call (unhide HB) hx)
          have hlow3 := Nat.le_trans hlow hx.size
          have c0 := r0 dq osq
          generalize grow (redrawn wr dq) osq = W3 at hx HO3 HT3 HB3 hlow3 c0 ⊢
          clear hx cA cS r0 r1 r2 r3 x0 x1 x2 y0 y1 y2 y3 HO HT HB hlow
          cases sm
          · rw [if_neg (by simp)] at HID' HHK'
            go_wp2_with fail
            go_roundw
            case rel => exact ⟨k + 1, by omega, by go_num, by rw [unhide HHK']; rfl, by rw [unhide HID'], HO3, HT3, HB3, hlow3⟩
            case measure => simp [intOf]; omega
          · rw [if_pos rfl] at HID' HHK'
            go_wp2_with fail
            go_roundw
            case rel => exact ⟨k + 1, by omega, by go_num, by rw [unhide HHK']; go_num, by rw [unhide HID'], HO3, HT3, HB3, hlow3⟩
            case measure => simp [intOf]; omega
        · have hkn' : k = n := by omega
          subst hkn'
          have hhk := hitsTo_le L a b c d (v1, v2, v3) k
          have HCC : Hid ((hc0 + hitsTo L a b c d (v1, v2, v3) k : Nat) = hitsOf L a b c d S k (i + 1)) := hide (unhide HHI).symm
          have hli : (idsL L a b c d (S.take i)).length ≤ 6 := by unfold idsL; rw [List.length_map]; have := List.length_take_le i S; omega
          rw [unhide HCC]
          generalize idTo L a b c d (v1, v2, v3) k = idv at *
          generalize hce : hitsOf L a b c d S k (i + 1) = hcn at *
          have HCE := hide hce
          clear hce
          have Z1 := below1 wr (.cells #[.int .i64 idv] 2)
          have hown := oKept (unhide HO) Z1
          have B3 := below_call (unhide HB) Z1
          have T3 := (unhide HT).kept (unhide HT).lt Z1
          clear Z1 HO HB HT
          generalize idsL L a b c d (S.take i) = Pk at *
          go_wp2_with (at_builtin; refine wpList_append_own _ rfl _ _ 24 rfl (w.heap.size + 1) 2 i0 (.int .i64 0) 1 8 Tryd.underlying24 hinf hz0 hz1 hz2 rfl (by decide) _ _ _ rfl hown ⟨wr.heap.size, 0, none⟩ 1 1 (intL [idv]) rfl rfl ?d2 (fun u hu => intL_cell hu) ?d3 ?d4 ?d5 ?_)
          case d2 => first | exact fun j u h => h | exact new_cells _ _ _
          case d3 => omega
          case d4 => omega
          case d5 => first | omega | (simp; omega)
          intro v7 V7 hown7 hgrow7 _
          have ne : ∀ z, z < w.heap.size + 1 → some z ≠ u8.ownBlock := fun z hz e => by have := (hown.lt z e.symm).1; omega
          have HB8 : Hid (Below w.heap.size w V7) := hide (B3.trans ⟨hgrow7.os, hgrow7.tape, hgrow7.output, hgrow7.size, fun z hz => hgrow7.block z (by simp; omega) (ne z (by omega))⟩)
          have HT8 := hide (T3.same (hgrow7.block w.heap.size (by simp; omega) (ne _ (by omega))))
          have HO8 : Hid (V7.ownsRow (w.heap.size + 1) 2 1 v7 (idsL L a b c d (S.take (i + 1))).length (intL (idsL L a b c d (S.take (i + 1))))) := hide (by
            rw [unhide HSI, List.length_append]
            unfold intL
            rw [List.map_append]
            exact hown7)
          have hlow8 : w.heap.size + 1 ≤ V7.heap.size := by have := hgrow7.size; simp at this; omega
          clear hown7 hgrow7 hown B3 T3 ne
          go_wp2_with fail
          go_roundw
          case rel => exact ⟨i + 1, by omega, by go_num, by rw [unhide HCE], HO8, HT8, HB8, hlow8⟩
          case measure => simp [intOf]; omega
    · have him' : i = m := by omega
      subst him'
      rw [unhide HAL] at HO
      go_wp2_with fail
      exact bodyPost_ret (v := .tuple #[u8, .int .i64 (hitsOf L a b c d S n i : Int)]) (by simp [results, Tryd.results48, go_sem]) rfl ⟨⟨_, rfl, oLower (unhide HO) (by omega)⟩, unhide HB⟩
set_option maxHeartbeats 4000000 in
set_option maxRecDepth 100000 in
theorem specMatchAt_any (L : List St) (S : List D3) (ar br : Option Addr) (cr dr : Nat) (a b c d : Int) (w : World) (hn : L.length ≤ 1048576) (hn2 : S.length ≤ 1048576) (hS : Stars w ar L L.length) (hD : Dirs w br S S.length) :
    Calls Tryd.prog 24 #[.slice ar L.length cr, .agg #[.int .i64 a, .int .i64 b, .int .i64 c, .int .i64 d], .slice br S.length dr] w fun e w' => (∃ v, e = .returned v ∧ w'.ownsRow w.heap.size 2 1 v (matchL L a b c d S).length (intL (matchL L a b c d S))) ∧ Below w.heap.size w w' := by
  have cK := hide (fun (W : World) hW => specSky_any L ar cr W hn hW)
  have cP := hide (fun (W : World) hW => specSpotsRight_any S br dr W hn2 hW)
  have cM : Hid (skyB L = true → rightT a b c d = true → spotsB S = true → ∀ W : World, Stars W ar L L.length → Dirs W br S S.length → Calls Tryd.prog 48 #[.slice ar L.length cr, .agg #[.int .i64 a, .int .i64 b, .int .i64 c, .int .i64 d], .slice br S.length dr] W fun e w' => (∃ v z, e = .returned (.tuple #[v, .int .i64 z]) ∧ w'.ownsRow W.heap.size 2 1 v (matchL L a b c d S).length (intL (matchL L a b c d S))) ∧ Below W.heap.size W w') := hide (fun hk hr hp W hW hW2 => (l06Match_any L S ar br cr dr a b c d W hk hr hp hW hW2).mono fun e w' h => by
    obtain ⟨⟨v, he, ho⟩, hb⟩ := h
    refine ⟨⟨v, _, he, ?_⟩, hb⟩
    rw [match_yes hk hr hp]
    exact ho)
  have H1 : Hid (skyB L = false → matchL L a b c d S = []) := hide match_no1
  have H2 : Hid (rightT a b c d = false → matchL L a b c d S = []) := hide match_no2
  have H3 : Hid (spotsB S = false → matchL L a b c d S = []) := hide match_no3
  have H5 : Hid (skyB L = true → L.length ≤ 12) := hide (fun h => (sky_ok h).1)
  have H6 : Hid (spotsB S = true → S.length ≤ 6) := hide (fun h => (spots_ok h).1)
  have H7 : Hid (400 < L.length → matchL L a b c d S = []) := hide (fun h => match_no1 (sky_long (by omega)))
  have H8 : Hid (400 < S.length → matchL L a b c d S = []) := hide (fun h => match_no3 (spots_long (by omega)))
  have HS := hide hS
  have HD := hide hD
  clear hS hD
  generalize matchL L a b c d S = R at *
  generalize S.length = m at *
  generalize L.length = n at *
  have T0 := turnAt_new w a b c d 48
  have B0 := below1 w (.cells #[.int .i64 a, .int .i64 b, .int .i64 c, .int .i64 d] 48)
  have e1 : (w.alloc (.cells #[.int .i64 a, .int .i64 b, .int .i64 c, .int .i64 d] 48)).heap.size = w.heap.size + 1 := by simp
  have O0 := ownI_none (w.alloc (.cells #[.int .i64 a, .int .i64 b, .int .i64 c, .int .i64 d] 48)) w.heap.size (by omega)
  have BO := below2 w (.cells #[.int .i64 a, .int .i64 b, .int .i64 c, .int .i64 d] 48) (.cells #[] 2)
  rw [e1] at O0
  clear e1
  by_cases hbn : 400 < n
  · have hbn' : decide ((400 : Int) < (n : Int)) = true := by simp; omega
    obtain rfl := unhide H7 hbn
    go_enter Tryd.func24, Tryd.ntmps24
    go_wp2_with fail
    go_ret
    exact ⟨⟨_, rfl, O0⟩, BO⟩
  have hbn' : decide ((400 : Int) < (n : Int)) = false := by simp; omega
  have hbn2 : ¬ (400 : Int) < (n : Int) := by omega
  by_cases hbm : 400 < m
  · have hbm' : decide ((400 : Int) < (m : Int)) = true := by simp; omega
    obtain rfl := unhide H8 hbm
    go_enter Tryd.func24, Tryd.ntmps24
    go_wp2_with fail
    go_ret
    exact ⟨⟨_, rfl, O0⟩, BO⟩
  have hbm' : decide ((400 : Int) < (m : Int)) = false := by simp; omega
  have hbm2 : ¬ (400 : Int) < (m : Int) := by omega
  clear O0 BO
  go_enter Tryd.func24, Tryd.ntmps24
  go_wp2_with fail
  generalize w.alloc (.cells #[.int .i64 a, .int .i64 b, .int .i64 c, .int .i64 d] 48) = W0 at T0 B0 ⊢
  refine (unhide cK _ ((unhide HS).kept B0)).mono ?_
  rintro e W1 ⟨rfl, hx⟩
  have T1 := T0.kept T0.lt hx
  have B1 := below_call B0 hx
  clear hx T0 B0
  have empt : ∀ W : World, Below w.heap.size w W → (W.alloc (.cells #[] 2)).ownsRow w.heap.size 2 1 (.slice (some ⟨W.heap.size, 0, none⟩) 0 0) 0 (intL []) ∧ Below w.heap.size w (W.alloc (.cells #[] 2)) := fun W hB => ⟨ownI_none W w.heap.size hB.size, below_call hB (below1 _ _)⟩
  cases hk : skyB L
  · obtain rfl := unhide H1 hk
    go_wp2_with fail
    go_ret
    exact ⟨⟨_, rfl, (empt _ B1).1⟩, (empt _ B1).2⟩
  obtain ⟨t0, t1, t2, t3⟩ := T1
  have T1 : TurnAt W1 w.heap.size a b c d := ⟨t0, t1, t2, t3⟩
  go_wp2_with fail
  clear t0 t1 t2 t3
  refine (specTRight_any a b c d _).mono ?_
  rintro e W2 ⟨rfl, hx⟩
  have T2 := T1.kept T1.lt hx
  have B2 := below_call B1 hx
  clear hx T1 B1
  cases hr : rightT a b c d
  · obtain rfl := unhide H2 hr
    go_wp2_with fail
    go_ret
    exact ⟨⟨_, rfl, (empt _ B2).1⟩, (empt _ B2).2⟩
  go_wp2_with fail
  refine (unhide cP _ ((unhide HD).kept B2)).mono ?_
  rintro e W3 ⟨rfl, hx⟩
  have T3 := T2.kept T2.lt hx
  have B3 := below_call B2 hx
  clear hx T2 B2
  cases hp : spotsB S
  · obtain rfl := unhide H3 hp
    go_wp2_with fail
    go_ret
    exact ⟨⟨_, rfl, (empt _ B3).1⟩, (empt _ B3).2⟩
  have cM' := hide (unhide cM hk hr hp)
  clear cM cK cP H1 H2 H3 H5 H6 H7 H8 empt hk hr hp
  obtain ⟨t0, t1, t2, t3⟩ := T3
  go_wp2_with fail
  refine (unhide cM' _ ((unhide HS).kept B3) ((unhide HD).kept B3)).mono ?_
  rintro e W4 ⟨⟨v, z, rfl, ho⟩, hx⟩
  go_wp2_with fail
  go_ret
  exact ⟨⟨_, rfl, oLower ho B3.size⟩, below_call B3 hx⟩
end Go.Proofs.YtdkfbfiofniblaaDoor
