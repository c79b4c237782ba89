/- Several texts in one: TsB, Join. -/
import Derived.Test.YtlleafjdgblhcaaGreatDoorQDeskRunOwn10
import Derived.Test.YtlleafjdgblhcaaGreatDoorQDeskRunOwn3
namespace Go.Proofs.YtlleafjdgblhcaaGreatDoor
set_option linter.unusedVariables false
set_option linter.unusedSimpArgs false
set_option maxRecDepth 100000
set_option maxHeartbeats 8000000
section
open Go.RowKit Go.Sort
theorem rm (w : World) :
  Calls Tryz.prog 113 #[] w fun e w' => (∃ v, e = .returned v ∧ w'.ownsRow w.heap.size 32 4 v (ay 625).length (dC (ay 625))) ∧ Below w.heap.size w w' := by
 obtain ⟨i0, hinf, hz0, hz1, hz2⟩ := info_parts rV
 have hm8 : 1000 ≤ maxLen := by decide +kernel
 have HO0 := yz (At w w.heap.size (Nat.le_refl _))
 have HB0 := yz (an w (.cells #[] 32))
 go_enter Tryz.func113, Tryz.ntmps113
 go_wp2_with fail
 generalize w.alloc (.cells #[] 32) = W0 at HO0 HB0 ⊢
 go_loopw [1, 2] (fun v kk wr => ∃ i : Nat, i ≤ 5 ∧ kk = .int .i64 ((i : Int) - 2) ∧ Hid (wr.ownsRow w.heap.size 32 4 v (ay (i * 125)).length (dC (ay (i * 125)))) ∧ Hid (Below w.heap.size w wr)) (fun _ kk _ => (3 - intOf kk).toNat)
 case atStart => exact ⟨0, by omega, rfl, HO0, HB0⟩
 case round =>
  clear HO0 HB0
  obtain ⟨i, hi, rfl, HO1, HB1⟩ := hrel
  by_cases hi5 : i < 5
  ·have hi2 : (i : Int) - 2 ≤ 2 := by omega
   go_wp2_with fail
   go_loopw [1, 3] (fun v kk wr => ∃ j : Nat, j ≤ 5 ∧ kk = .int .i64 ((j : Int) - 2) ∧ Hid (wr.ownsRow w.heap.size 32 4 v (ay (i * 125 + j * 25)).length (dC (ay (i * 125 + j * 25)))) ∧ Hid (Below w.heap.size w wr)) (fun _ kk _ => (3 - intOf kk).toNat)
   case atStart => exact ⟨0, by omega, rfl, yz (by have h := yy HO1; simpa using h), HB1⟩
   case round =>
    clear HO1 HB1
    obtain ⟨j, hj, rfl, HO2, HB2⟩ := hrel
    by_cases hj5 : j < 5
    ·have hj2 : (j : Int) - 2 ≤ 2 := by omega
     go_wp2_with fail
     go_loopw [1, 4] (fun v kk wr => ∃ l : Nat, l ≤ 5 ∧ kk = .int .i64 ((l : Int) - 2) ∧ Hid (wr.ownsRow w.heap.size 32 4 v (ay (i * 125 + j * 25 + l * 5)).length (dC (ay (i * 125 + j * 25 + l * 5)))) ∧ Hid (Below w.heap.size w wr)) (fun _ kk _ => (3 - intOf kk).toNat)
     case atStart => exact ⟨0, by omega, rfl, yz (by have h := yy HO2; simpa using h), HB2⟩
     case round =>
      clear HO2 HB2
      obtain ⟨l, hl, rfl, HO3, HB3⟩ := hrel
      by_cases hl5 : l < 5
      ·have hl2 : (l : Int) - 2 ≤ 2 := by omega
       go_wp2_with fail
       go_loopw [1, 5] (fun v kk wr => ∃ m : Nat, m ≤ 5 ∧ kk = .int .i64 ((m : Int) - 2) ∧ Hid (wr.ownsRow w.heap.size 32 4 v (ay (i * 125 + j * 25 + l * 5 + m)).length (dC (ay (i * 125 + j * 25 + l * 5 + m)))) ∧ Hid (Below w.heap.size w wr)) (fun _ kk _ => (3 - intOf kk).toNat)
       case atStart => exact ⟨0, by omega, rfl, yz (by have h := yy HO3; simpa using h), HB3⟩
       case round =>
        clear HO3 HB3
        obtain ⟨m, hm, rfl, HO4, HB4⟩ := hrel
        by_cases hm5 : m < 5
        ·have hm2 : (m : Int) - 2 ≤ 2 := by omega
         have hta := DS i j l m hj5 hl5 hm5
         have hpl := kD (i * 125 + j * 25 + l * 5 + m)
         have HSN := yz (qf (i * 125 + j * 25 + l * 5 + m))
         rw [hta] at HSN
         clear hta
         generalize hke : i * 125 + j * 25 + l * 5 + m = k at *
         have hkb : k < 625 := by omega
         have HKE : Hid (i * 125 + j * 25 + l * 5 + (m + 1) = k + 1) := yz (by omega)
         clear hke
         have Z := an wr (.cells #[.int .i64 ((i : Int) - 2), .int .i64 ((j : Int) - 2), .int .i64 ((l : Int) - 2), .int .i64 ((m : Int) - 2)] 32)
         have HBa := yz (ak (yy HB4) Z)
         have HOa := yz (iD (yy HO4) Z)
         have TA1 := aH wr ((i : Int) - 2) ((j : Int) - 2) ((l : Int) - 2) ((m : Int) - 2) 32
         clear Z HO4 HB4
         go_wp2_with fail
         obtain ⟨p, hp⟩ : ∃ p, p = (i : Int) - 2 := ⟨_, rfl⟩
         obtain ⟨q, hq⟩ : ∃ p, p = (j : Int) - 2 := ⟨_, rfl⟩
         obtain ⟨r, hr⟩ : ∃ p, p = (l : Int) - 2 := ⟨_, rfl⟩
         obtain ⟨s, hs⟩ : ∃ p, p = (m : Int) - 2 := ⟨_, rfl⟩
         generalize wr.alloc (.cells #[.int .i64 ((i : Int) - 2), .int .i64 ((j : Int) - 2), .int .i64 ((l : Int) - 2), .int .i64 ((m : Int) - 2)] 32) = W1 at HBa HOa TA1 ⊢
         refine (bf _ _ _ _ _).mono ?_
         rintro e W2 ⟨rfl, hx⟩
         have TA2 := TA1.kept TA1.lt hx
         have HBb := yz (ak (yy HBa) hx)
         have HOb := yz (iD (yy HOa) hx)
         clear hx TA1 HBa HOa
         rw [← hp, ← hq, ← hr, ← hs] at HSN
         rw [← hp, ← hq, ← hr, ← hs] at TA2
         have HG : Hid (nN (p, q, r, s) = aA ((i : Int) - 2) ((j : Int) - 2) ((l : Int) - 2) ((m : Int) - 2)) := yz (by rw [← hp, ← hq, ← hr, ← hs]; rfl)
         generalize wr.heap.size = tb at *
         cases hrt : aA ((i : Int) - 2) ((j : Int) - 2) ((l : Int) - 2) ((m : Int) - 2)
         ·rw [hrt] at HG
          rw [yy HG, if_neg (by simp), List.append_nil] at HSN
          have HO3 : Hid (W2.ownsRow w.heap.size 32 4 u1 (ay (i * 125 + j * 25 + l * 5 + (m + 1))).length (dC (ay (i * 125 + j * 25 + l * 5 + (m + 1))))) := yz (by rw [yy HKE, yy HSN]; exact yy HOb)
          clear hp hq hr hs
          go_wp2_with fail
          go_roundw
          case rel => exact ⟨m + 1, by omega, by go_num, HO3, HBb⟩
          case measure => simp [intOf] <;> omega
         ·rw [hrt] at HG
          rw [yy HG, if_pos rfl] at HSN
          obtain ⟨e0, e1, e2, e3⟩ := TA2
          have Z1 := an W2 (.cells #[.int .i64 p, .int .i64 q, .int .i64 r, .int .i64 s] 32)
          have hown := iD (yy HOb) Z1
          have B3 := ak (yy HBb) Z1
          have hsz := (yy HBb).size
          have HP := yz hp
          have HQ := yz hq
          have HR := yz hr
          have HS := yz hs
          clear Z1 HOb HBb hp hq hr hs
          generalize ay k = Pk at *
          go_wp2_with (at_builtin; refine wpList_append_own _ rfl _ _ 153 rfl w.heap.size 32 i0 (.agg #[.int .i64 0, .int .i64 0, .int .i64 0, .int .i64 0]) 4 32 Tryz.underlying153 hinf hz0 hz1 hz2 rfl (by decide) _ _ _ rfl hown ⟨W2.heap.size, 0, none⟩ 1 1 (dC [(p, q, r, s)]) rfl rfl ?d2 (fun u hu => qo hu) ?d3 ?d4 ?d5 ?_)
          case d2 => first | exact fun j u h => h | exact iR _ _ _
          case d3 => omega
          case d4 => omega
          case d5 => first | omega | (simp; omega)
          intro v7 V7 hown7 hgrow7 _
          have HB8 := yz (AD B3 hown hgrow7 (by simp; omega))
          have HO8 : Hid (V7.ownsRow w.heap.size 32 4 v7 (ay (i * 125 + j * 25 + l * 5 + (m + 1))).length (dC (ay (i * 125 + j * 25 + l * 5 + (m + 1))))) := yz (by rw [yy HKE, yy HSN, rW, List.length_append]; exact hown7)
          clear hown7 hgrow7 hown B3 e0 e1 e2 e3
          go_wp2_with fail
          go_roundw
          case rel => exact ⟨m + 1, by omega, by go_num, HO8, HB8⟩
          case measure => simp [intOf] <;> omega
        ·have hm2 : ¬ (m : Int) - 2 ≤ 2 := by omega
         have hm5' : m = 5 := by omega
         subst hm5'
         have HOx : Hid (wr.ownsRow w.heap.size 32 4 u1 (ay (i * 125 + j * 25 + (l + 1) * 5)).length (dC (ay (i * 125 + j * 25 + (l + 1) * 5)))) := yz (by rw [show i * 125 + j * 25 + (l + 1) * 5 = i * 125 + j * 25 + l * 5 + 5 by omega]; exact yy HO4)
         go_wp2_with fail
         go_roundw
         case rel => exact ⟨l + 1, by omega, by go_num, HOx, HB4⟩
         case measure => simp [intOf] <;> omega
      ·have hl2 : ¬ (l : Int) - 2 ≤ 2 := by omega
       have hl5' : l = 5 := by omega
       subst hl5'
       have HOx : Hid (wr.ownsRow w.heap.size 32 4 u1 (ay (i * 125 + (j + 1) * 25)).length (dC (ay (i * 125 + (j + 1) * 25)))) := yz (by rw [show i * 125 + (j + 1) * 25 = i * 125 + j * 25 + 5 * 5 by omega]; exact yy HO3)
       go_wp2_with fail
       go_roundw
       case rel => exact ⟨j + 1, by omega, by go_num, HOx, HB3⟩
       case measure => simp [intOf] <;> omega
    ·have hj2 : ¬ (j : Int) - 2 ≤ 2 := by omega
     have hj5' : j = 5 := by omega
     subst hj5'
     have HOx : Hid (wr.ownsRow w.heap.size 32 4 u1 (ay ((i + 1) * 125)).length (dC (ay ((i + 1) * 125)))) := yz (by rw [show (i + 1) * 125 = i * 125 + 5 * 25 by omega]; exact yy HO2)
     go_wp2_with fail
     go_roundw
     case rel => exact ⟨i + 1, by omega, by go_num, HOx, HB2⟩
     case measure => simp [intOf] <;> omega
  ·have hi2 : ¬ (i : Int) - 2 ≤ 2 := by omega
   have hi5' : i = 5 := by omega
   subst hi5'
   go_wp2_with fail
   go_ret
   exact ⟨⟨_, rfl, yy HO1⟩, yy HB1⟩
end
section
open Go.RowKit
theorem ou (a : ByteArray) (w : World) (ha : a.size ≤ 100000) :
  Calls Tryz.prog 31 #[.string a, .string ByteArray.empty] w fun e w' => e = .returned (.string a) ∧ Below w.heap.size w w' := by
 obtain ⟨M, hM, hmk⟩ := yS a.size (by omega)
 have hinfo : (Tryz.prog.info? 5).map (·.size) = some 1 := by kernel_rfl
 have hcp := Lib.run_copy_row_string (P := Tryz.prog) (w.alloc (.cells M 5)) 41 9 3 5 w.heap.size 0 a.size a.size a M 5 Tryz.underlying41 hinfo (heap_alloc_new w _) (by omega) (by omega)
 rw [jq] at hcp
 obtain ⟨Y1, hY1⟩ : ∃ Y, Y = (M.toList.take 0 ++ Lib.byteCells a.data.toList ++ M.toList.drop (0 + a.size)).toArray := ⟨_, rfl⟩
 rw [← hY1] at hcp
 have hY1l : Y1.toList = Lib.byteCells a.data.toList := by rw [hY1]; simp [← hM]
 have hcp2 : ∀ d dLen dCap W, (Builtin.copy_ #[41, 9] 3 #[.slice d dLen dCap, .string ByteArray.empty]).run Tryz.prog W = .ok (goInt 0) W := fun d dLen dCap W => Lib.run_copy_empty_string W 41 9 3 5 d dLen dCap ByteArray.empty Tryz.underlying41 (by rw [hinfo]; rfl) rfl
 have hcv := kA w 5 Y1 a hY1l a.size
 clear hY1 hY1l hinfo hM
 go_enter Tryz.func31, Tryz.ntmps31
 go_wp2
 go_ret
 exact ⟨rfl, (Below.refl _ _).alloc (Nat.le_refl _) _⟩
theorem iM (a b : ByteArray) (w : World) (ha : a.size ≤ 100000) (hb : b.size ≤ 100000) :
  Calls Tryz.prog 31 #[.string a, .string b] w fun e w' => e = .returned (.string (a ++ b)) ∧ Below w.heap.size w w' := by
 obtain ⟨M, hM, hmk0⟩ := yS (a.size + b.size) (by omega)
 have hmk : ∀ W : World, (Instr.makeSlice 41 (.int .i64 ((a.size : Int) + (b.size : Int))) (.int .i64 ((a.size : Int) + (b.size : Int)))).run Tryz.prog W = .ok (.slice (some ⟨W.heap.size, 0, none⟩) (a.size + b.size) (a.size + b.size)) (W.alloc (.cells M 5)) := fun W => by have := hmk0 W; simpa using this
 clear hmk0
 have hinfo : (Tryz.prog.info? 5).map (·.size) = some 1 := by kernel_rfl
 have hcp := Lib.run_copy_row_string (P := Tryz.prog) (w.alloc (.cells M 5)) 41 9 3 5 w.heap.size 0 (a.size + b.size) (a.size + b.size) a M 5 Tryz.underlying41 hinfo (heap_alloc_new w _) (by omega) (by omega)
 rw [jq] at hcp
 obtain ⟨Y1, hY1⟩ : ∃ Y, Y = (M.toList.take 0 ++ Lib.byteCells a.data.toList ++ M.toList.drop (0 + a.size)).toArray := ⟨_, rfl⟩
 rw [← hY1] at hcp
 have hla : (Lib.byteCells a.data.toList).length = a.size := by rw [Lib.byteCells_length, ← Lib.size_eq]
 have hlb : (Lib.byteCells b.data.toList).length = b.size := by rw [Lib.byteCells_length, ← Lib.size_eq]
 have hY1l : Y1.toList = Lib.byteCells a.data.toList ++ M.toList.drop a.size := by rw [hY1]; simp
 have hY1s : Y1.size = a.size + b.size := by rw [← Array.length_toList, hY1l]; simp [hla, hM]
 have hab : (a ++ b).data.toList = a.data.toList ++ b.data.toList := by simp
 have hs : (a ++ b).size = a.size + b.size := by simp
 clear hY1
 by_cases h0 : b = ByteArray.empty
 ·subst h0
  refine (ou a w ha).mono ?_
  rintro e w' ⟨rfl, hw⟩
  exact ⟨by rw [tr], hw⟩
 ·have hpos : 0 < b.size := by
   rcases Nat.eq_zero_or_pos b.size with h | h
   ·exact absurd (ByteArray.ext (Array.eq_empty_of_size_eq_zero h)) h0
   ·exact h
  have hcp2 := Lib.run_copy_row_string (P := Tryz.prog) (w.alloc (.cells Y1 5)) 41 9 3 5 w.heap.size a.size b.size b.size b Y1 5 Tryz.underlying41 hinfo (heap_alloc_new w _) (by omega) (by omega)
  rw [jq] at hcp2
  obtain ⟨Y2, hY2⟩ : ∃ Y, Y = (Y1.toList.take a.size ++ Lib.byteCells b.data.toList ++ Y1.toList.drop (a.size + b.size)).toArray := ⟨_, rfl⟩
  rw [← hY2] at hcp2
  have hY2l : Y2.toList = Lib.byteCells (a ++ b).data.toList := by
   rw [hY2, hab, hY1l]
   rw [List.take_left' hla, List.drop_of_length_le (by simp [hla, hM])]
   simp [Lib.byteCells]
  have hcv := kA w 5 Y2 (a ++ b) hY2l (a.size + b.size)
  rw [hs] at hcv
  clear hY2 hY2l hab hs hY1l hla hlb
  go_enter Tryz.func31, Tryz.ntmps31
  go_wp2
  go_ret
  exact ⟨rfl, (Below.refl _ _).alloc (Nat.le_refl _) _⟩
end
end Go.Proofs.YtlleafjdgblhcaaGreatDoor
