/- Several texts in one: FrE. -/
import Derived.Laws.OwnMore
import Derived.Test.YtackifnnhjbgbaaQFnFrameOwn2
namespace Go.Proofs.Ytackifnnhjbgbaa
set_option linter.unusedVariables false
set_option linter.unusedSimpArgs false
set_option maxRecDepth 100000
set_option maxHeartbeats 8000000
section
open Go.RowKit Go.Sort
theorem gu {f d : ByteArray} {k : Nat} {v : Int} (h : aV f d k = v) (j : Nat) : (if j = k then v else if j < k then aV f d j else 0) = if j < k + 1 then aV f d j else 0 := by
 by_cases e : j = k
 ·subst e; rw [if_pos rfl, if_pos (by omega), h]
 ·rw [if_neg e]
  by_cases e2 : j < k
  ·rw [if_pos e2, if_pos (by omega)]
  ·rw [if_neg e2, if_neg (by omega)]
theorem ip (n : Nat) (h : n ≤ 281474976710656) : ∃ M : Array Value, (∀ j, j < n → M[j]? = some (.int .u8 0)) ∧ ∀ W : World, (Instr.makeSlice 29 (.int .i64 (n : Int)) (.int .i64 (n : Int))).run Try.prog W = .ok (.slice (some ⟨W.heap.size, 0, none⟩) n n) (W.alloc (.cells M 5)) := by
 obtain ⟨i0, hi, hz0, hz1, hz2⟩ := iB
 refine ⟨madeCells (Value.int .u8 0).cells (((n : Nat) : Int).toNat * i0.size), fun j hj => ?_, fun W => ?_⟩
 ·rw [hz1, ← Array.getElem?_toList]
  have e : (Value.int .u8 0).cells = #[.int .u8 0] := rfl
  rw [e, toList_madeCells_one]
  simp [hj]
 ·have h := run_make (P := Try.prog) W 29 5 i0 (.int .u8 0) Try.underlying29 hi hz0 .i64 .i64 (n : Int) (n : Int) (by omega) (by omega) (by rw [hz2]; omega) (by omega)
  simpa using h
theorem iq {w : World} {M : Array Value} {n : Nat} (h : ∀ j, j < n → M[j]? = some (.int .u8 0)) : bh (w.alloc (.cells M 5)) w.heap.size n (fun _ => 0) := fun j hj => by
 have hb : (w.alloc (.cells M 5)).heap[w.heap.size]? = some (.cells M 5 (0, 0)) := heap_alloc_new w _
 exact ⟨by rw [cell_of_row _ _ _ _ _ _ hb]; exact h j hj, frozen_of_row _ _ _ _ _ hb⟩
theorem cE (w1 h1 : Int) (f : ByteArray) (w2 h2 : Int) (d : ByteArray) (w : World) :
  Calls Try.prog 14 #[.agg #[.int .i64 w1, .int .i64 h1, .string f], .agg #[.int .i64 w2, .int .i64 h2, .string d]] w fun e w' => e = .returned (bw w1 h1 f w2 h2 d) ∧ Below w.heap.size w w' := by
 have cF := yz (fun W => bc w1 h1 f W)
 have cD := yz (fun W => bc w2 h2 d W)
 have A0 := (((al w [.int .i64 w1, .int .i64 h1, .string f] 26).alloc (.cells #[.int .i64 w2, .int .i64 h2, .string d] 26)).alloc (.cells #[.int .i64 0, .int .i64 0, .string ⟨#[]⟩, .int .i64 0] 40))
 have D0 := ((al (w.alloc (.cells #[.int .i64 w1, .int .i64 h1, .string f] 26)) [.int .i64 w2, .int .i64 h2, .string d] 26).alloc (.cells #[.int .i64 0, .int .i64 0, .string ⟨#[]⟩, .int .i64 0] 40))
 have R0 := al ((w.alloc (.cells #[.int .i64 w1, .int .i64 h1, .string f] 26)).alloc (.cells #[.int .i64 w2, .int .i64 h2, .string d] 26)) [.int .i64 0, .int .i64 0, .string ⟨#[]⟩, .int .i64 0] 40
 have B0 := dt w (.cells #[.int .i64 w1, .int .i64 h1, .string f] 26) (.cells #[.int .i64 w2, .int .i64 h2, .string d] 26) (.cells #[.int .i64 0, .int .i64 0, .string ⟨#[]⟩, .int .i64 0] 40)
 have e1 : (w.alloc (.cells #[.int .i64 w1, .int .i64 h1, .string f] 26)).heap.size = w.heap.size + 1 := by simp
 have e2 : ((w.alloc (.cells #[.int .i64 w1, .int .i64 h1, .string f] 26)).alloc (.cells #[.int .i64 w2, .int .i64 h2, .string d] 26)).heap.size = w.heap.size + 1 + 1 := by simp
 rw [e1] at D0
 rw [e2] at R0
 clear e1 e2
 go_enter Try.func14, Try.ntmps14
 go_wp2_with fail
 generalize (((w.alloc (.cells #[.int .i64 w1, .int .i64 h1, .string f] 26)).alloc (.cells #[.int .i64 w2, .int .i64 h2, .string d] 26)).alloc (.cells #[.int .i64 0, .int .i64 0, .string ⟨#[]⟩, .int .i64 0] 40)) = W0 at A0 D0 R0 B0 ⊢
 obtain ⟨ob, hob⟩ : ∃ ob, ob = w.heap.size + 1 + 1 := ⟨_, rfl⟩
 obtain ⟨db, hdb⟩ : ∃ db, db = w.heap.size + 1 := ⟨_, rfl⟩
 obtain ⟨fb, hfb⟩ : ∃ fb, fb = w.heap.size := ⟨_, rfl⟩
 rw [← hob] at R0 ⊢
 rw [← hdb] at D0 ⊢
 rw [← hfb] at A0 ⊢
 have lfb : w.heap.size ≤ fb := by omega
 have lob : w.heap.size ≤ ob := by omega
 have lfd : fb < db := by omega
 have ldo : db < ob := by omega
 clear hob hdb hfb
 refine (yx cF _).mono ?_
 rintro e W1 ⟨rfl, hx⟩
 have A1 := A0.kept hx
 have D1 := D0.kept hx
 have R1 := R0.kept hx
 have B1 := aj B0 hx
 clear hx A0 D0 R0 B0
 cases k1 : av w1 h1 f
 ·have r0 := R1.cell 0 _ rfl
  have r1 := R1.cell 1 _ rfl
  have r2 := R1.cell 2 _ rfl
  have r3 := R1.cell 3 _ rfl
  obtain ⟨g0, g1, g2, g3⟩ := eD (R1)
  have HV : Hid (bw w1 h1 f w2 h2 d = _) := yz (bz (fI k1))
  go_wp2_with fail
  rw [yx HV]
  exact bodyPost_ret (v := .agg #[.int .i64 0, .int .i64 0, .string ⟨#[]⟩, .int .i64 1]) (by simp [results, Try.results14, go_sem, r0, r1, r2, r3]) rfl ⟨rfl, (((B1.setCell lob _).setCell lob _).setCell lob _).setCell lob _⟩
 obtain ⟨a0, a1, a2⟩ := cd (A1)
 obtain ⟨d0, d1, d2⟩ := cd (D1)
 go_wp2_with fail
 refine (yx cD _).mono ?_
 rintro e W2 ⟨rfl, hx⟩
 have A2 := A1.kept hx
 have D2 := D1.kept hx
 have R2 := R1.kept hx
 have B2 := aj B1 hx
 clear hx A1 D1 R1 B1 a0 a1 a2 d0 d1 d2
 cases k2 : av w2 h2 d
 ·have r0 := R2.cell 0 _ rfl
  have r1 := R2.cell 1 _ rfl
  have r2 := R2.cell 2 _ rfl
  have r3 := R2.cell 3 _ rfl
  obtain ⟨g0, g1, g2, g3⟩ := eD (R2)
  have HV : Hid (bw w1 h1 f w2 h2 d = _) := yz (bz (fJ k2))
  go_wp2_with fail
  rw [yx HV]
  exact bodyPost_ret (v := .agg #[.int .i64 0, .int .i64 0, .string ⟨#[]⟩, .int .i64 1]) (by simp [results, Try.results14, go_sem, r0, r1, r2, r3]) rfl ⟨rfl, (((B2.setCell lob _).setCell lob _).setCell lob _).setCell lob _⟩
 obtain ⟨a0, a1, a2⟩ := cd (A2)
 obtain ⟨d0, d1, d2⟩ := cd (D2)
 by_cases k3 : w1 = w2
 case neg =>
  have k3' : (w1 == w2) = false := by simp [k3]
  obtain ⟨r0, r1, r2, r3⟩ := gU (R2)
  obtain ⟨g0, g1, g2, g3⟩ := eD (R2)
  have HV : Hid (bw w1 h1 f w2 h2 d = _) := yz (bz (fK k3))
  go_wp2_with fail
  rw [yx HV]
  exact bodyPost_ret (v := .agg #[.int .i64 0, .int .i64 0, .string ⟨#[]⟩, .int .i64 1]) (by simp [results, Try.results14, go_sem, r0, r1, r2, r3]) rfl ⟨rfl, (((B2.setCell lob _).setCell lob _).setCell lob _).setCell lob _⟩
 by_cases k4 : h1 = h2
 case neg =>
  have k4' : (h1 == h2) = false := by simp [k4]
  have k3' : (w1 == w2) = true := by simp [k3]
  obtain ⟨r0, r1, r2, r3⟩ := gU (R2)
  obtain ⟨g0, g1, g2, g3⟩ := eD (R2)
  have HV : Hid (bw w1 h1 f w2 h2 d = _) := yz (bz (fL k4))
  go_wp2_with fail
  rw [yx HV]
  exact bodyPost_ret (v := .agg #[.int .i64 0, .int .i64 0, .string ⟨#[]⟩, .int .i64 1]) (by simp [results, Try.results14, go_sem, r0, r1, r2, r3]) rfl ⟨rfl, (((B2.setCell lob _).setCell lob _).setCell lob _).setCell lob _⟩
 subst k3 k4
 have HV := yz (dz (dT k1 k2 rfl rfl))
 have hsz : (d.size : Int) = (f.size : Int) := by rw [(au.1 k1).2.2.2.2, (au.1 k2).2.2.2.2]
 have hsz2 : f.size ≤ 192 := by
  have hm := (au.1 k1)
  have := Int.mul_le_mul hm.2.1 hm.2.2.2.1 (by omega) (by omega)
  omega
 obtain ⟨M, hM, hmk⟩ := ip f.size (by omega)
 have hbb := R2.lt
 have hrow := iq (w := W2) hM
 have A3 := A2.alloc (.cells M 5)
 have D3 := D2.alloc (.cells M 5)
 have R3 := R2.alloc (.cells M 5)
 have B3 := aj B2 (an W2 (.cells M 5))
 have a2' := A3.cell 2 _ rfl
 go_wp2_with fail
 clear hmk A2 D2 R2 B2 a0 a1 a2 d0 d1 d2 a2'
 generalize W2.alloc (.cells M 5) = W3 at *
 generalize W2.heap.size = bb at *
 have A4 := yz A3
 have D4 := yz D3
 have R4 := yz R3
 have B4 := yz B3
 have Q4 := yz hrow
 clear A3 D3 R3 B3 hrow
 go_loopw [37] (fun i wr => ∃ k : Nat, k ≤ f.size ∧ i = .int .i64 k ∧ Hid (bh wr bb f.size (fun j => if j < k then aV f d j else 0)) ∧ Hid (Blk wr fb [.int .i64 w1, .int .i64 h1, .string f] 26) ∧ Hid (Blk wr db [.int .i64 w1, .int .i64 h1, .string d] 26) ∧ Hid (Blk wr ob [.int .i64 0, .int .i64 0, .string ⟨#[]⟩, .int .i64 0] 40) ∧ Hid (Below w.heap.size w wr)) (fun i _ => f.size - (intOf i).toNat)
 case atStart => exact ⟨0, by omega, rfl, yz ((yx Q4).congr (fun j hj => by simp)), A4, D4, R4, B4⟩
 case round =>
  clear Q4 A4 D4 R4 B4
  obtain ⟨k, hk, rfl, HQ, HA, HD, HR, HB⟩ := hrel
  by_cases hkn : k < f.size
  ·have hkn2 : (k : Int) < (f.size : Int) := by omega
   have hkn3 : (k : Int) < (d.size : Int) := by omega
   have hkd : k < d.size := by omega
   have hc := (yx HQ k hkn).1
   simp only [Nat.lt_irrefl, if_false] at hc
   have hfz := (yx HQ k hkn).2
   have a2 := (yx HA).cell 2 _ rfl
   have d2 := (yx HD).cell 2 _ rfl
   have hy := aU hkd
   have hx := aU hkn
   have hxb := f[k].toNat_lt
   have HY := yz hy
   have HX := yz hx
   clear hy hx
   have hne1 : fb ≠ bb := by omega
   have hne2 : db ≠ bb := by omega
   have hne3 : ob ≠ bb := by omega
   have hbw : w.heap.size ≤ bb := by omega
   have HL : Hid (aV f d k = (f[k].toNat : Int) - min (f[k].toNat : Int) (d[k].toNat : Int)) := yz (by
    unfold aV
    rw [yx HX, yx HY]
    split <;> omega)
   have Q6 : Hid (bh (wr.setCell ⟨bb, k, none⟩ (.int .u8 ((f[k].toNat : Int) - min (f[k].toNat : Int) (d[k].toNat : Int)))) bb f.size (fun j => if j < k + 1 then aV f d j else 0)) := yz (((yx HQ).set k hkn _).congr (fun j hj => gu (yx HL) j))
   have A6 := yz ((yx HA).other ⟨bb, k, none⟩ (.int .u8 ((f[k].toNat : Int) - min (f[k].toNat : Int) (d[k].toNat : Int))) hne1)
   have D6 := yz ((yx HD).other ⟨bb, k, none⟩ (.int .u8 ((f[k].toNat : Int) - min (f[k].toNat : Int) (d[k].toNat : Int))) hne2)
   have R6 := yz ((yx HR).other ⟨bb, k, none⟩ (.int .u8 ((f[k].toNat : Int) - min (f[k].toNat : Int) (d[k].toNat : Int))) hne3)
   have B6 := yz ((yx HB).setCell (p := ⟨bb, k, none⟩) hbw (.int .u8 ((f[k].toNat : Int) - min (f[k].toNat : Int) (d[k].toNat : Int))))
   go_wp2_with fail
   go_region
   go_wp2_with fail
   go_roundw
   case rel => exact ⟨k + 1, by omega, by go_num, yz (yx Q6).drewn, yz (yx A6).drewn, yz (yx D6).drewn, yz (yx R6).drewn, yz (yx B6).drew⟩
   case measure => simp [intOf] <;> omega
  ·have hke : k = f.size := by omega
   have Q5 : Hid (bh wr bb f.size (aV f d)) := yz ((yx HQ).congr (fun j hj => by rw [if_pos (by omega)]))
   have hcv := (yx Q5).conv f.size
   clear HQ
   have a0 := (yx HA).cell 0 _ rfl
   have a1 := (yx HA).cell 1 _ rfl
   obtain ⟨r0, r1, r2, r3⟩ := gU (yx HR)
   obtain ⟨g0, g1, g2, g3⟩ := eD (yx HR)
   generalize bv f d = res at *
   have HB' := yx HB
   go_wp2_with fail
   rw [yx HV]
   exact bodyPost_ret (v := .agg #[.int .i64 w1, .int .i64 h1, .string res, .int .i64 0]) (by simp [results, Try.results14, go_sem, r0, r1, r2, r3]) rfl ⟨rfl, (((HB'.setCell lob _).setCell lob _).setCell lob _).setCell lob _⟩
end
end Go.Proofs.Ytackifnnhjbgbaa
