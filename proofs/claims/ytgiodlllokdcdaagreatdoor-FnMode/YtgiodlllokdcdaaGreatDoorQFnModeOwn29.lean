/- Several texts in one: LkA. -/
import Derived.BigRegion
import Derived.Test.YtgiodlllokdcdaaGreatDoorQFnModeOwn28
import Derived.Test.YtgiodlllokdcdaaGreatDoorQFnModeOwn4
namespace Go.Proofs.YtgiodlllokdcdaaGreatDoor
set_option linter.unusedVariables false
set_option linter.unusedSimpArgs false
set_option maxRecDepth 100000
set_option maxHeartbeats 8000000
section
open Go.RowKit Go.Sort
def uh (t : Tk) (p q r s : Int) : Tk := { t with mode := 1, A := p, B := q, C := r, D := s, coast := 0 }
def aQ (t : Tk) : Tk := if t.mode = 0 then t else if t.lim < t.coast + 1 then pS t else { t with mode := 2, coast := t.coast + 1 }
theorem jB (T : Array Value) (X : World) (b : Nat) (v : Value) (lim mode A B C D coast fr : Int) (hT : T.getD 2 undef = .pointer (some ⟨b, 0, none⟩)) (h : dj X b v lim mode A B C D coast fr) : (results Tryz.f67 T).run Tryz.prog X = .ok (.agg #[v, .int .i64 lim, .int .i64 mode, .int .i64 A, .int .i64 B, .int .i64 C, .int .i64 D, .int .i64 coast, .int .i64 fr]) X := by
 obtain ⟨h0, h1, h2, h3, h4, h5, h6, h7, h8⟩ := h
 simp only [Array.getD_eq_getD_getElem?] at hT
 simp [results, Tryz.results67, go_sem, hT, h0, h1, h2, h3, h4, h5, h6, h7, h8]
theorem gx (lim mode A B C D coast fr p q r s : Int) (a : Option Addr) (n c : Nat) (w : World) :
  Calls Tryz.prog 65 #[.agg #[.slice a n c, .int .i64 lim, .int .i64 mode, .int .i64 A, .int .i64 B, .int .i64 C, .int .i64 D, .int .i64 coast, .int .i64 fr], .agg #[.int .i64 p, .int .i64 q, .int .i64 r, .int .i64 s]] w fun e w' => e = .returned (.agg #[.slice a n c, .int .i64 lim, .int .i64 1, .int .i64 p, .int .i64 q, .int .i64 r, .int .i64 s, .int .i64 0, .int .i64 fr]) ∧ Below w.heap.size w w' := by
 go_enter Tryz.func65, Tryz.ntmps65
 go_wp2_with fail
 go_region
 go_wp2
 exact bodyPost_ret (v := .agg #[.slice a n c, .int .i64 lim, .int .i64 1, .int .i64 p, .int .i64 q, .int .i64 r, .int .i64 s, .int .i64 0, .int .i64 fr]) (by simp [results, Tryz.results65, go_sem]) rfl ⟨rfl, (dp _ _ _ _).drew⟩
theorem gm (lim mode A B C D coast fr p q r s : Int) (a : Option Addr) (n c : Nat) (w : World) :
  Calls Tryz.prog 73 #[.agg #[.slice a n c, .int .i64 lim, .int .i64 mode, .int .i64 A, .int .i64 B, .int .i64 C, .int .i64 D, .int .i64 coast, .int .i64 fr], .agg #[.int .i64 p, .int .i64 q, .int .i64 r, .int .i64 s]] w fun e w' => e = .returned (.agg #[.slice a n c, .int .i64 lim, .int .i64 1, .int .i64 p, .int .i64 q, .int .i64 r, .int .i64 s, .int .i64 0, .int .i64 fr, .int .i64 0]) ∧ Below w.heap.size w w' := by
 go_enter Tryz.func73, Tryz.ntmps73
 go_wp2
 exact bodyPost_ret (v := .agg #[.slice a n c, .int .i64 lim, .int .i64 1, .int .i64 p, .int .i64 q, .int .i64 r, .int .i64 s, .int .i64 0, .int .i64 fr, .int .i64 0]) (by simp [results, Tryz.results73, go_sem]) rfl ⟨rfl, dp _ _ _ _⟩
theorem ph (L : List St) (lim mode A B C D coast fr : Int) (a : Option Addr) (n c : Nat) (w : World) (hm : mode = 0 ∨ mode = 1 ∨ mode = 2) (hc0 : 0 ≤ coast) (hc5 : coast ≤ 1000) :
  Calls Tryz.prog 67 #[.agg #[.slice a n c, .int .i64 lim, .int .i64 mode, .int .i64 A, .int .i64 B, .int .i64 C, .int .i64 D, .int .i64 coast, .int .i64 fr]] w fun e w' => e = .returned (tkV a n c (aQ ⟨L, lim, mode, A, B, C, D, coast, fr⟩)) ∧ Below w.heap.size w w' := by
 have hw : wrap64 (coast + 1) = coast + 1 := ap (by omega) (by omega)
 rcases hm with rfl | rfl | rfl
 ·have HO : Hid (tkV a n c (aQ ⟨L, lim, 0, A, B, C, D, coast, fr⟩) = .agg #[.slice a n c, .int .i64 lim, .int .i64 0, .int .i64 A, .int .i64 B, .int .i64 C, .int .i64 D, .int .i64 coast, .int .i64 fr]) := yz (by unfold aQ tkV; rw [if_pos rfl])
  go_enter Tryz.func67, Tryz.ntmps67
  go_wp2
  rw [yy HO]
  exact bodyPost_ret (v := .agg #[.slice a n c, .int .i64 lim, .int .i64 0, .int .i64 A, .int .i64 B, .int .i64 C, .int .i64 D, .int .i64 coast, .int .i64 fr]) (by simp [results, Tryz.results67, go_sem]) rfl ⟨rfl, aM _ _ _⟩
 ·by_cases hl : lim < coast + 1
  ·have HO : Hid (tkV a n c (aQ ⟨L, lim, 1, A, B, C, D, coast, fr⟩) = .agg #[.slice a n c, .int .i64 lim, .int .i64 0, .int .i64 0, .int .i64 0, .int .i64 0, .int .i64 0, .int .i64 0, .int .i64 fr]) := yz (by unfold aQ tkV; rw [if_neg (by show ¬ (1 : Int) = 0; omega), if_pos hl]; rfl)
   have B0 := yz (aM w (.cells #[.slice a n c, .int .i64 lim, .int .i64 2, .int .i64 A, .int .i64 B, .int .i64 C, .int .i64 D, .int .i64 (coast + 1), .int .i64 fr] 62) (.cells #[.slice none 0 0, .int .i64 0, .int .i64 0, .int .i64 0, .int .i64 0, .int .i64 0, .int .i64 0, .int .i64 0, .int .i64 0] 62))
   have R0 := yz (by simpa using aD (w.alloc (.cells #[.slice a n c, .int .i64 lim, .int .i64 2, .int .i64 A, .int .i64 B, .int .i64 C, .int .i64 D, .int .i64 (coast + 1), .int .i64 fr] 62)) [.slice none 0 0, .int .i64 0, .int .i64 0, .int .i64 0, .int .i64 0, .int .i64 0, .int .i64 0, .int .i64 0, .int .i64 0] 62 : Blk ((w.alloc (.cells #[.slice a n c, .int .i64 lim, .int .i64 2, .int .i64 A, .int .i64 B, .int .i64 C, .int .i64 D, .int .i64 (coast + 1), .int .i64 fr] 62)).alloc (.cells #[.slice none 0 0, .int .i64 0, .int .i64 0, .int .i64 0, .int .i64 0, .int .i64 0, .int .i64 0, .int .i64 0, .int .i64 0] 62)) (w.heap.size + 1) [.slice none 0 0, .int .i64 0, .int .i64 0, .int .i64 0, .int .i64 0, .int .i64 0, .int .i64 0, .int .i64 0, .int .i64 0] 62)
   go_enter Tryz.func67, Tryz.ntmps67
   go_wp2_with fail
   refine (iF lim 2 A B C D (coast + 1) fr a n c _).mono ?_
   rintro e w1 ⟨rfl, hx⟩
   have B1 := yz (aj (yy B0) hx)
   have R1 := yz ((yy R0).kept hx)
   clear hx B0 R0
   obtain ⟨r0, r1, r2, r3, r4, r5, r6, r7, r8⟩ := dM (yy R1)
   obtain ⟨g0, g1, g2, g3, g4, g5, g6, g7, g8⟩ := iQ (yy R1)
   go_wp2_with fail
   rw [yy HO]
   refine bodyPost_ret (v := .agg #[.slice a n c, .int .i64 lim, .int .i64 0, .int .i64 0, .int .i64 0, .int .i64 0, .int .i64 0, .int .i64 0, .int .i64 fr]) ?_ rfl ⟨rfl, ?_⟩
   ·exact jB _ _ (w.heap.size + 1) _ lim 0 0 0 0 0 0 fr rfl (di (u := .slice none 0 0) ⟨r0, r1, r2, r3, r4, r5, r6, r7, r8⟩ _ lim 0 0 0 0 0 0 fr)
   ·iterate 9 (refine aB ?_ (show w.heap.size ≤ w.heap.size + 1 by omega) _ _)
    exact yy B1
  ·have HO : Hid (tkV a n c (aQ ⟨L, lim, 1, A, B, C, D, coast, fr⟩) = .agg #[.slice a n c, .int .i64 lim, .int .i64 2, .int .i64 A, .int .i64 B, .int .i64 C, .int .i64 D, .int .i64 (coast + 1), .int .i64 fr]) := yz (by unfold aQ tkV; rw [if_neg (by show ¬ (1 : Int) = 0; omega), if_neg hl])
   go_enter Tryz.func67, Tryz.ntmps67
   go_wp2
   rw [yy HO]
   exact bodyPost_ret (v := .agg #[.slice a n c, .int .i64 lim, .int .i64 2, .int .i64 A, .int .i64 B, .int .i64 C, .int .i64 D, .int .i64 (coast + 1), .int .i64 fr]) (by simp [results, Tryz.results67, go_sem]) rfl ⟨rfl, aM _ _ _⟩
 ·by_cases hl : lim < coast + 1
  ·have HO : Hid (tkV a n c (aQ ⟨L, lim, 2, A, B, C, D, coast, fr⟩) = .agg #[.slice a n c, .int .i64 lim, .int .i64 0, .int .i64 0, .int .i64 0, .int .i64 0, .int .i64 0, .int .i64 0, .int .i64 fr]) := yz (by unfold aQ tkV; rw [if_neg (by show ¬ (2 : Int) = 0; omega), if_pos hl]; rfl)
   have B0 := yz (aM w (.cells #[.slice a n c, .int .i64 lim, .int .i64 2, .int .i64 A, .int .i64 B, .int .i64 C, .int .i64 D, .int .i64 (coast + 1), .int .i64 fr] 62) (.cells #[.slice none 0 0, .int .i64 0, .int .i64 0, .int .i64 0, .int .i64 0, .int .i64 0, .int .i64 0, .int .i64 0, .int .i64 0] 62))
   have R0 := yz (by simpa using aD (w.alloc (.cells #[.slice a n c, .int .i64 lim, .int .i64 2, .int .i64 A, .int .i64 B, .int .i64 C, .int .i64 D, .int .i64 (coast + 1), .int .i64 fr] 62)) [.slice none 0 0, .int .i64 0, .int .i64 0, .int .i64 0, .int .i64 0, .int .i64 0, .int .i64 0, .int .i64 0, .int .i64 0] 62 : Blk ((w.alloc (.cells #[.slice a n c, .int .i64 lim, .int .i64 2, .int .i64 A, .int .i64 B, .int .i64 C, .int .i64 D, .int .i64 (coast + 1), .int .i64 fr] 62)).alloc (.cells #[.slice none 0 0, .int .i64 0, .int .i64 0, .int .i64 0, .int .i64 0, .int .i64 0, .int .i64 0, .int .i64 0, .int .i64 0] 62)) (w.heap.size + 1) [.slice none 0 0, .int .i64 0, .int .i64 0, .int .i64 0, .int .i64 0, .int .i64 0, .int .i64 0, .int .i64 0, .int .i64 0] 62)
   go_enter Tryz.func67, Tryz.ntmps67
   go_wp2_with fail
   refine (iF lim 2 A B C D (coast + 1) fr a n c _).mono ?_
   rintro e w1 ⟨rfl, hx⟩
   have B1 := yz (aj (yy B0) hx)
   have R1 := yz ((yy R0).kept hx)
   clear hx B0 R0
   obtain ⟨r0, r1, r2, r3, r4, r5, r6, r7, r8⟩ := dM (yy R1)
   obtain ⟨g0, g1, g2, g3, g4, g5, g6, g7, g8⟩ := iQ (yy R1)
   go_wp2_with fail
   rw [yy HO]
   refine bodyPost_ret (v := .agg #[.slice a n c, .int .i64 lim, .int .i64 0, .int .i64 0, .int .i64 0, .int .i64 0, .int .i64 0, .int .i64 0, .int .i64 fr]) ?_ rfl ⟨rfl, ?_⟩
   ·exact jB _ _ (w.heap.size + 1) _ lim 0 0 0 0 0 0 fr rfl (di (u := .slice none 0 0) ⟨r0, r1, r2, r3, r4, r5, r6, r7, r8⟩ _ lim 0 0 0 0 0 0 fr)
   ·iterate 9 (refine aB ?_ (show w.heap.size ≤ w.heap.size + 1 by omega) _ _)
    exact yy B1
  ·have HO : Hid (tkV a n c (aQ ⟨L, lim, 2, A, B, C, D, coast, fr⟩) = .agg #[.slice a n c, .int .i64 lim, .int .i64 2, .int .i64 A, .int .i64 B, .int .i64 C, .int .i64 D, .int .i64 (coast + 1), .int .i64 fr]) := yz (by unfold aQ tkV; rw [if_neg (by show ¬ (2 : Int) = 0; omega), if_neg hl])
   go_enter Tryz.func67, Tryz.ntmps67
   go_wp2
   rw [yy HO]
   exact bodyPost_ret (v := .agg #[.slice a n c, .int .i64 lim, .int .i64 2, .int .i64 A, .int .i64 B, .int .i64 C, .int .i64 D, .int .i64 (coast + 1), .int .i64 fr]) (by simp [results, Tryz.results67, go_sem]) rfl ⟨rfl, aM _ _ _⟩
end
end Go.Proofs.YtgiodlllokdcdaaGreatDoor
