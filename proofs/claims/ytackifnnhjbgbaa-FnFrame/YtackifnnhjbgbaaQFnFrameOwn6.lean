/- Several texts in one: FfB. -/
import Derived.Test.YtackifnnhjbgbaaQFnFrameOwn5
import Derived.Test.YtackifnnhjbgbaaQFnFrameOwn1
import Derived.Test.YtackifnnhjbgbaaQFnFrameOwn3
namespace Go.Proofs.Ytackifnnhjbgbaa
set_option linter.unusedVariables false
set_option linter.unusedSimpArgs false
set_option maxRecDepth 100000
set_option maxHeartbeats 8000000
section
open Go.RowKit
def dH (wd : Nat) (s : ByteArray) (n : Nat) : List Int := (List.range n).map (fun i => (ao s (mir wd i) : Int))
def bN (wd : Nat) (s : ByteArray) : ByteArray := strOfNums (dH wd s s.size)
theorem iG (wd : Nat) (s : ByteArray) (n : Nat) : (dH wd s n).length = n := by unfold dH; simp
theorem hU (wd : Nat) (s : ByteArray) (n : Nat) : dH wd s (n + 1) = dH wd s n ++ [(ao s (mir wd n) : Int)] := by unfold dH; rw [List.range_succ, List.map_append]; rfl
structure gT (w wr : World) (wd ht : Nat) (s : ByteArray) (v : Value) (k : Nat) : Prop where
 fr : Blk wr w.heap.size [.int .i64 (wd : Int), .int .i64 (ht : Int), .string s] 26
 res : Blk wr (w.heap.size + 1) [.int .i64 0, .int .i64 0, .string ⟨#[]⟩] 26
 own : wr.ownsRow (w.heap.size + 2) 5 1 v k ((dH wd s k).map (Value.int .u8))
 bel : Below w.heap.size w wr
theorem jG : (Try.prog.info? 5).map (fun i => (i.zero, i.size, i.bytes)) = some (some (.int .u8 0), 1, 1) := by kernel_rfl
theorem gA {w : World} {base size n : Nat} {e : TypeId} {v : Value} {xs : List Value} (h : w.ownsRow base e size v n xs) (hn : 0 < n) : ∃ g cap, v = .slice (some ⟨g, 0, none⟩) n cap := by
 rcases h.2 with ⟨_, h0⟩ | ⟨g, cap, _, hv, _⟩
 ·omega
 ·exact ⟨g, cap, hv⟩
theorem gn {w : World} {base g n cap : Nat} {xs : List Int} (h : w.ownsRow base 5 1 (.slice (some ⟨g, 0, none⟩) n cap) n (xs.map (Value.int .u8))) :
  (convert 29 9 (.slice (some ⟨g, 0, none⟩) n cap)).run Try.prog w = .ok (.string (strOfNums xs)) w := by
 have hl : xs.length = n := by have := h.1; simpa using this
 refine run_convert_bytes_arg (P := Try.prog) _ 29 5 Try.underlying29 Try.underlying5 g 0 n cap xs hl ?_ 9 Try.underlying9
 intro i hi
 rw [Nat.zero_add, h.cellAt i (by omega), List.getElem?_map, List.getD, List.getElem?_eq_getElem (by omega)]
 rfl
theorem fw (wd ht : Nat) (s : ByteArray) (w : World) (hw1 : 1 ≤ wd) (hw : wd ≤ 16) (hh1 : 1 ≤ ht) (hh : ht ≤ 12) (hs : s.size = wd * ht) :
  Calls Try.prog 18 #[.agg #[.int .i64 (wd : Int), .int .i64 (ht : Int), .string s]] w fun e w' => e = .returned (.agg #[.int .i64 (wd : Int), .int .i64 (ht : Int), .string (bN wd s)]) ∧ Below w.heap.size w w' := by
 have A0 := ((al w [.int .i64 (wd : Int), .int .i64 (ht : Int), .string s] 26).alloc (.cells #[.int .i64 0, .int .i64 0, .string ⟨#[]⟩] 26)).alloc (.cells #[] 5)
 have R0 := (al (w.alloc (.cells #[.int .i64 (wd : Int), .int .i64 (ht : Int), .string s] 26)) [.int .i64 0, .int .i64 0, .string ⟨#[]⟩] 26).alloc (.cells #[] 5)
 have e1 : (w.alloc (.cells #[.int .i64 (wd : Int), .int .i64 (ht : Int), .string s] 26)).heap.size = w.heap.size + 1 := by simp
 have e2 : ((w.alloc (.cells #[.int .i64 (wd : Int), .int .i64 (ht : Int), .string s] 26)).alloc (.cells #[.int .i64 0, .int .i64 0, .string ⟨#[]⟩] 26)).heap.size = w.heap.size + 2 := by simp
 have O0 := World.ownsRow_lit ((w.alloc (.cells #[.int .i64 (wd : Int), .int .i64 (ht : Int), .string s] 26)).alloc (.cells #[.int .i64 0, .int .i64 0, .string ⟨#[]⟩] 26)) (base := w.heap.size + 2) (e := 5) (size := 1) #[] 0 (by rw [e2]; exact Nat.le_refl _) (by simp [maxLen]) rfl
 have B0 := dt w (.cells #[.int .i64 (wd : Int), .int .i64 (ht : Int), .string s] 26) (.cells #[.int .i64 0, .int .i64 0, .string ⟨#[]⟩] 26) (.cells #[] 5)
 rw [e1] at R0
 rw [e2] at O0
 have H0 : Hid (gT w _ wd ht s (.slice (some ⟨w.heap.size + 2, 0, none⟩) 0 0) 0) := yz ⟨A0, R0, O0, B0⟩
 obtain ⟨i0, hi, hz0, hz1, hz2⟩ := info_parts jG
 have hn9 : s.size ≤ 192 := by rw [hs]; exact Nat.mul_le_mul hw hh
 have HSZ := yz hs
 clear A0 R0 O0 B0 e1 e2 hs
 go_enter Try.func18, Try.ntmps18
 go_wp2_with fail
 generalize (((w.alloc (.cells #[.int .i64 (wd : Int), .int .i64 (ht : Int), .string s] 26)).alloc (.cells #[.int .i64 0, .int .i64 0, .string ⟨#[]⟩] 26)).alloc (.cells #[] 5)) = W0 at *
 go_loopw [3, 4] (fun u v wr => ∃ (y : Nat), v = .int .i64 y ∧ y ≤ ht ∧ Hid (gT w wr wd ht s u (y * wd))) (fun _ v _ => ht - (intOf v).toNat)
 case atStart => exact ⟨0, rfl, by omega, by rw [Nat.zero_mul]; exact H0⟩
 case round =>
  obtain ⟨y, rfl, hy, H1⟩ := hrel
  clear H0
  have f0 := (yx H1).fr.cell 0 _ rfl
  have f1 := (yx H1).fr.cell 1 _ rfl
  by_cases hyh : y < ht
  ·have hyz : (y : Int) < (ht : Int) := by omega
   obtain ⟨p, hp⟩ : ∃ p, p = y * wd := ⟨_, rfl⟩
   have em : (y : Int) * (wd : Int) = (p : Int) := by rw [hp]; exact (Int.natCast_mul y wd).symm
   have hpn : p + wd ≤ s.size := by
    rw [yx HSZ, hp, show y * wd + wd = (y + 1) * wd by rw [Nat.add_mul, Nat.one_mul], Nat.mul_comm wd ht]
    exact Nat.mul_le_mul_right _ hyh
   rw [← hp] at H1
   have HP := yz hp
   clear hp
   go_wp2_with fail
   clear f0 f1
   go_loopw [3, 5] (fun u v ws => ∃ (r : Nat), v = .int .i64 ((r : Int) - 1) ∧ r ≤ wd ∧ Hid (gT w ws wd ht s u (p + (wd - r)))) (fun _ v _ => (intOf v + 1).toNat)
   case atStart => exact ⟨wd, rfl, Nat.le_refl _, by rw [Nat.sub_self, Nat.add_zero]; exact H1⟩
   case round =>
    obtain ⟨r, rfl, hr, H2⟩ := hrel
    clear H1
    cases r with
    | zero =>
     have ez0 : ((0 : Nat) : Int) - 1 = -1 := by omega
     rw [ez0]
     have H3 : Hid (gT w wr wd ht s u3 ((y + 1) * wd)) := yz (by
      have h := yx H2
      rw [Nat.sub_zero, yx HP, show y * wd + wd = (y + 1) * wd by rw [Nat.add_mul, Nat.one_mul]] at h
      exact h)
     clear H2
     go_wp2_with fail
     go_roundw
     case rel => exact ⟨y + 1, by go_num, by omega, H3⟩
     case measure => simp [intOf] <;> omega
    | succ r =>
     have ez : ((r + 1 : Nat) : Int) - 1 = (r : Int) := by omega
     rw [ez]
     have hrz : (0 : Int) ≤ (r : Int) := by omega
     obtain ⟨q, hq⟩ : ∃ q, q = p + r := ⟨_, rfl⟩
     have eq : (p : Int) + (r : Int) = (q : Int) := by omega
     have hqs : q < s.size := by omega
     have hbv := aU hqs
     have HM : Hid (dH wd s (p + (wd - r)) = dH wd s (p + (wd - (r + 1))) ++ [(s[q].toNat : Int)]) := yz (by
      rw [show p + (wd - r) = p + (wd - (r + 1)) + 1 by omega, hU]
      congr 2
      rw [yx HP, aW (show wd - (r + 1) < wd by omega), show y * wd + (wd - 1 - (wd - (r + 1))) = q by rw [hq, yx HP]; omega, hbv])
     have c0 := (yx H2).fr.cell 0 _ rfl
     have c2 := (yx H2).fr.cell 2 _ rfl
     have HQ := yz hq
     clear hbv hq
     have hown := (yx H2).own
     have hsz := (yx H2).res.lt
     have hkm : p + (wd - (r + 1)) ≤ 192 := by omega
     go_wp2_with (at_builtin; refine wpList_append_own _ rfl _ _ 29 rfl (w.heap.size + 2) 5 i0 (.int .u8 0) 1 1 Try.underlying29 hi hz0 hz1 hz2 rfl (by decide) _ _ _ rfl (hown.alloc _) ⟨wr.heap.size, 0, none⟩ 1 1 [.int .u8 (s[q].toNat : Int)] rfl rfl ?c1 ?c2 ?c3 ?c4 ?c5 ?_)
     case c1 =>
      intro j x hj
      match j, hj with
      | 0, hj => simp at hj; subst hj; simp [Addr.add]
     case c2 => intro x hx; simp at hx; subst hx; rfl
     case c3 => unfold maxLen; omega
     case c4 => simp; omega
     case c5 => simp; omega
     intro v' w1 hown' hgrow _
     have hne : ∀ b, b < w.heap.size + 2 → some b ≠ u3.ownBlock := fun b hb e => by have := (hown.lt b e.symm).1; omega
     have H3 : Hid (gT w w1 wd ht s v' (p + (wd - r))) := yz ⟨Blk.grown ((yx H2).fr.alloc _) hgrow (hne _ (by omega)), Blk.grown ((yx H2).res.alloc _) hgrow (hne _ (by omega)), by
      rw [yx HM, List.map_append, show p + (wd - r) = p + (wd - (r + 1)) + 1 by omega]
      exact hown', ((yx H2).bel.alloc (yx H2).bel.size _).grown hgrow (by have := (yx H2).bel.size; simp; omega) (fun j hj => by have := (hown.lt j hj).1; omega)⟩
     clear hown hown' hgrow hne H2 HM c0 c2 hsz
     go_wp2_with fail
     go_roundw
     case rel => exact ⟨r, rfl, by omega, H3⟩
     case measure => simp [intOf] <;> omega
  ·have hyz : ¬ (y : Int) < (ht : Int) := by omega
   have H3 : Hid (gT w wr wd ht s u3 s.size) := yz (by
    have h := yx H1
    rw [show y * wd = s.size by rw [yx HSZ, show y = ht by omega, Nat.mul_comm]] at h
    exact h)
   have hsz0 : 0 < s.size := by rw [yx HSZ]; exact Nat.mul_pos hw1 hh1
   obtain ⟨g, cap, hv⟩ := gA (yx H3).own hsz0
   subst hv
   have hcv := gn (yx H3).own
   have HS := yz (show strOfNums (dH wd s s.size) = bN wd s from rfl)
   generalize strOfNums (dH wd s s.size) = S at *
   have f2 := (yx H3).fr.cell 2 _ rfl
   have x2 := (yx H3).fr.free 2
   have r0 := (yx H3).res.cell 0 _ rfl
   have r1 := (yx H3).res.cell 1 _ rfl
   have r2 := (yx H3).res.cell 2 _ rfl
   have y0 := (yx H3).res.free 0
   have y1 := (yx H3).res.free 1
   have y2 := (yx H3).res.free 2
   have HB := yz (yx H3).bel
   clear H3 H1
   go_wp2_with fail
   exact bodyPost_ret (v := .agg #[.int .i64 (wd : Int), .int .i64 (ht : Int), .string S]) (by simp [results, Try.results18, go_sem, r0, r1, r2, f0, f1, f2]) rfl ⟨by rw [← yx HS], ((((yx HB).setCell (Nat.le_refl _) _).setCell (Nat.le_succ _) _).setCell (Nat.le_succ _) _).setCell (Nat.le_succ _) _⟩
end
end Go.Proofs.Ytackifnnhjbgbaa
