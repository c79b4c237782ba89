/- Several texts in one: ModH. -/
import Derived.Test.YtgiodlllokdcdaaGreatDoorQFnModeOwn10
namespace Go.Proofs.YtgiodlllokdcdaaGreatDoor
set_option linter.unusedVariables false
set_option linter.unusedSimpArgs false
set_option maxRecDepth 100000
set_option maxHeartbeats 8000000
section
open Go.RowKit Go.Sort
theorem tZ (T : Array Value) (X : World) (b : Nat) (v : Value) (lim mode A B C D coast fr : Int) (hT : T.getD 2 undef = .pointer (some ⟨b, 0, none⟩)) (h : dj X b v lim mode A B C D coast fr) : (results Tryz.f43 T).run Tryz.prog X = .ok (.agg #[v, .int .i64 lim, .int .i64 mode, .int .i64 A, .int .i64 B, .int .i64 C, .int .i64 D, .int .i64 coast, .int .i64 fr]) X := by
 obtain ⟨h0, h1, h2, h3, h4, h5, h6, h7, h8⟩ := h
 simp only [Array.getD_eq_getD_getElem?] at hT
 simp [results, Tryz.results43, go_sem, hT, h0, h1, h2, h3, h4, h5, h6, h7, h8]
theorem qS (T : Array Value) (X : World) (b : Nat) (v : Value) (lim mode A B C D coast fr : Int) (hT : T.getD 2 undef = .pointer (some ⟨b, 0, none⟩)) (h : dj X b v lim mode A B C D coast fr) : (results Tryz.f29 T).run Tryz.prog X = .ok (.agg #[v, .int .i64 lim, .int .i64 mode, .int .i64 A, .int .i64 B, .int .i64 C, .int .i64 D, .int .i64 coast, .int .i64 fr]) X := by
 obtain ⟨h0, h1, h2, h3, h4, h5, h6, h7, h8⟩ := h
 simp only [Array.getD_eq_getD_getElem?] at hT
 simp [results, Tryz.results29, go_sem, hT, h0, h1, h2, h3, h4, h5, h6, h7, h8]
theorem bj {w : World} {b : Nat} {u : Value} {lim0 mode0 A0 B0 C0 D0 coast0 fr0 code0 : Int} (h : TkO w b u lim0 mode0 A0 B0 C0 D0 coast0 fr0 code0) (v : Value) (lim mode A B C D coast fr code : Int) : TkO ((((((((((w.setCell ⟨b, 0, none⟩ v).setCell ⟨b, 1, none⟩ (.int .i64 lim)).setCell ⟨b, 2, none⟩ (.int .i64 mode)).setCell ⟨b, 3, none⟩ (.int .i64 A)).setCell ⟨b, 4, none⟩ (.int .i64 B)).setCell ⟨b, 5, none⟩ (.int .i64 C)).setCell ⟨b, 6, none⟩ (.int .i64 D)).setCell ⟨b, 7, none⟩ (.int .i64 coast)).setCell ⟨b, 8, none⟩ (.int .i64 fr)).setCell ⟨b, 9, none⟩ (.int .i64 code)) b v lim mode A B C D coast fr code := by
 obtain ⟨⟨h0, h1, h2, h3, h4, h5, h6, h7, h8⟩, h9⟩ := h
 refine ⟨⟨?_, ?_, ?_, ?_, ?_, ?_, ?_, ?_, ?_⟩, ?_⟩ <;> simp [go_sem, h0, h1, h2, h3, h4, h5, h6, h7, h8, h9]
theorem gU (L : List St) (lim mode A B C D coast fr : Int) (ad : Option Addr) (c : Nat) (w : World) (hn : L.length ≤ 1048576) (hS : aH w ad L L.length) :
  Calls Tryz.prog 43 #[.agg #[.slice ad L.length c, .int .i64 lim, .int .i64 mode, .int .i64 A, .int .i64 B, .int .i64 C, .int .i64 D, .int .i64 coast, .int .i64 fr]] w fun e w' => ∃ a cap, e = .returned (.agg #[.slice a L.length cap, .int .i64 lim, .int .i64 mode, .int .i64 A, .int .i64 B, .int .i64 C, .int .i64 D, .int .i64 coast, .int .i64 fr]) ∧ aq w' (w.heap.size + 2) L a cap ∧ Below w.heap.size w w' := by
 have B0 := dp w (.cells #[.slice ad L.length c, .int .i64 lim, .int .i64 mode, .int .i64 A, .int .i64 B, .int .i64 C, .int .i64 D, .int .i64 coast, .int .i64 fr] 27) (.cells #[.slice none 0 0, .int .i64 0, .int .i64 0, .int .i64 0, .int .i64 0, .int .i64 0, .int .i64 0, .int .i64 0, .int .i64 0] 27) (.cells #[] 80)
 have S1 := yz (hS.kept B0)
 have S0 := ((ck w (.slice ad L.length c) lim mode A B C D coast fr 27).kept (an _ (.cells #[.slice none 0 0, .int .i64 0, .int .i64 0, .int .i64 0, .int .i64 0, .int .i64 0, .int .i64 0, .int .i64 0, .int .i64 0] 27))).kept (an _ (.cells #[] 80))
 have R0 := (by simpa using ck (w.alloc (.cells #[.slice ad L.length c, .int .i64 lim, .int .i64 mode, .int .i64 A, .int .i64 B, .int .i64 C, .int .i64 D, .int .i64 coast, .int .i64 fr] 27)) (.slice none 0 0) 0 0 0 0 0 0 0 0 27 : dj ((w.alloc (.cells #[.slice ad L.length c, .int .i64 lim, .int .i64 mode, .int .i64 A, .int .i64 B, .int .i64 C, .int .i64 D, .int .i64 coast, .int .i64 fr] 27)).alloc (.cells #[.slice none 0 0, .int .i64 0, .int .i64 0, .int .i64 0, .int .i64 0, .int .i64 0, .int .i64 0, .int .i64 0, .int .i64 0] 27)) (w.heap.size + 1) (.slice none 0 0) 0 0 0 0 0 0 0 0).kept (an _ (.cells #[] 80))
 have F0 := ((ce w #[.slice ad L.length c, .int .i64 lim, .int .i64 mode, .int .i64 A, .int .i64 B, .int .i64 C, .int .i64 D, .int .i64 coast, .int .i64 fr] 27).kept (by simp) (an _ (.cells #[.slice none 0 0, .int .i64 0, .int .i64 0, .int .i64 0, .int .i64 0, .int .i64 0, .int .i64 0, .int .i64 0, .int .i64 0] 27))).kept (by simp; omega) (an _ (.cells #[] 80))
 have G0 := (by simpa using ce (w.alloc (.cells #[.slice ad L.length c, .int .i64 lim, .int .i64 mode, .int .i64 A, .int .i64 B, .int .i64 C, .int .i64 D, .int .i64 coast, .int .i64 fr] 27)) #[.slice none 0 0, .int .i64 0, .int .i64 0, .int .i64 0, .int .i64 0, .int .i64 0, .int .i64 0, .int .i64 0, .int .i64 0] 27 : ei ((w.alloc (.cells #[.slice ad L.length c, .int .i64 lim, .int .i64 mode, .int .i64 A, .int .i64 B, .int .i64 C, .int .i64 D, .int .i64 coast, .int .i64 fr] 27)).alloc (.cells #[.slice none 0 0, .int .i64 0, .int .i64 0, .int .i64 0, .int .i64 0, .int .i64 0, .int .i64 0, .int .i64 0, .int .i64 0] 27)) (w.heap.size + 1)).kept (by simp) (an _ (.cells #[] 80))
 have N0 := (by simpa using fR ((w.alloc (.cells #[.slice ad L.length c, .int .i64 lim, .int .i64 mode, .int .i64 A, .int .i64 B, .int .i64 C, .int .i64 D, .int .i64 coast, .int .i64 fr] 27)).alloc (.cells #[.slice none 0 0, .int .i64 0, .int .i64 0, .int .i64 0, .int .i64 0, .int .i64 0, .int .i64 0, .int .i64 0, .int .i64 0] 27)) (w.heap.size + 2) (by simp) : (((w.alloc (.cells #[.slice ad L.length c, .int .i64 lim, .int .i64 mode, .int .i64 A, .int .i64 B, .int .i64 C, .int .i64 D, .int .i64 coast, .int .i64 fr] 27)).alloc (.cells #[.slice none 0 0, .int .i64 0, .int .i64 0, .int .i64 0, .int .i64 0, .int .i64 0, .int .i64 0, .int .i64 0, .int .i64 0] 27)).alloc (.cells #[] 80)).ownsRow (w.heap.size + 2) 80 4 (.slice (some ⟨w.heap.size + 1 + 1, 0, none⟩) 0 0) 0 [])
 have HB := yz B0
 have HS := yz S0
 have HR := yz R0
 have HF := yz F0
 have HG := yz G0
 have HN := yz N0
 clear B0 S0 R0 F0 G0 N0 hS
 obtain ⟨i0, hinf, hz0, hz1, hz2⟩ := info_parts ip
 go_enter Tryz.func43, Tryz.ntmps43
 go_wp2_with (at_builtin; refine jc _ rfl _ _ 23 rfl (w.heap.size + 2) 80 i0 (.agg #[.int .i64 0, .int .i64 0, .int .i64 0, .int .i64 0]) 4 32 Tryz.underlying23 hinf hz0 hz1 hz2 rfl (by decide) _ _ _ rfl (yy HN) ad L.length c (aS L) rfl (dG L) (fo (yy S1)) (ew (yy S1)) (fun u hu => dX hu) ?d1 ?d2 ?d3 ?_)
 case d1 =>
  have : 1048576 ≤ maxLen := by decide +kernel
  omega
 case d2 => omega
 case d3 => simp
 intro v' w1 ho hg
 obtain ⟨a, cap, rfl, hC⟩ := gG ho
 have B1 := yz (bP (yy HB) hg (yy HB).size (fun g e => by simp [Value.ownBlock] at e; omega))
 have S2 := (yy HS).grown hg (by simp [Value.ownBlock]; omega)
 have R2 := yz ((yy HR).grown hg (by simp [Value.ownBlock]))
 have F2 := yz ((yy HF).grown (yy HS).lt hg (by simp [Value.ownBlock]; omega))
 have G2 := yz ((yy HG).grown (yy HR).lt hg (by simp [Value.ownBlock]))
 have C1 := yz hC
 clear ho hg hC HB HS HR HF HG HN S1
 obtain ⟨s0, s1, s2, s3, s4, s5, s6, s7, s8⟩ := S2
 have S2' : Hid (dj w1 w.heap.size (.slice ad L.length c) lim mode A B C D coast fr) := yz ⟨s0, s1, s2, s3, s4, s5, s6, s7, s8⟩
 obtain ⟨r0, r1, r2, r3, r4, r5, r6, r7, r8⟩ := yy R2
 have f0 := yy F2 0
 have g0 := yy G2 0
 have g1 := yy G2 1
 have g2 := yy G2 2
 have g3 := yy G2 3
 have g4 := yy G2 4
 have g5 := yy G2 5
 have g6 := yy G2 6
 have g7 := yy G2 7
 have g8 := yy G2 8
 go_wp2_with fail
 clear s0 s1 s2 s3 s4 s5 s6 s7 s8 r0 r1 r2 r3 r4 r5 r6 r7 r8 f0 g0 g1 g2 g3 g4 g5 g6 g7 g8
 refine bodyPost_ret (v := .agg #[.slice a L.length cap, .int .i64 lim, .int .i64 mode, .int .i64 A, .int .i64 B, .int .i64 C, .int .i64 D, .int .i64 coast, .int .i64 fr]) ?_ rfl ⟨a, cap, rfl, ?_, ?_⟩
 ·refine tZ _ _ (w.heap.size + 1) _ lim mode A B C D coast fr rfl ?_
  refine di (lim0 := 0) (mode0 := 0) (A0 := 0) (B0 := 0) (C0 := 0) (D0 := 0) (coast0 := 0) (fr0 := 0) (u := .slice none 0 0) ?_ _ lim mode A B C D coast fr
  exact dj.far (yy R2) (show w.heap.size + 1 ≠ w.heap.size by omega) _ _
 ·iterate 9 (refine aq.far ?_ (show w.heap.size + 1 < w.heap.size + 2 by omega) _ _)
  exact aq.far (yy C1) (show w.heap.size < w.heap.size + 2 by omega) _ _
 ·iterate 9 (refine aB ?_ (show w.heap.size ≤ w.heap.size + 1 by omega) _ _)
  exact aB (yy B1) (Nat.le_refl _) _ _
theorem fC (lim mode A B C D coast fr : Int) (a : Option Addr) (n c : Nat) (w : World) :
  Calls Tryz.prog 45 #[.agg #[.slice a n c, .int .i64 lim, .int .i64 mode, .int .i64 A, .int .i64 B, .int .i64 C, .int .i64 D, .int .i64 coast, .int .i64 fr]] w fun e w' => e = .returned (.agg #[.slice a n c, .int .i64 lim, .int .i64 0, .int .i64 0, .int .i64 0, .int .i64 0, .int .i64 0, .int .i64 0, .int .i64 fr]) ∧ Below w.heap.size w w' := by
 go_enter Tryz.func45, Tryz.ntmps45
 go_wp2
 exact bodyPost_ret (v := .agg #[.slice a n c, .int .i64 lim, .int .i64 0, .int .i64 0, .int .i64 0, .int .i64 0, .int .i64 0, .int .i64 0, .int .i64 fr]) (by simp [results, Tryz.results45, go_sem]) rfl ⟨rfl, aM _ _ _⟩
theorem cu (code : Int) (w : World) :
  Calls Tryz.prog 37 #[.int .i64 code] w fun e w' => e = .returned (.agg #[.slice none 0 0, .int .i64 0, .int .i64 0, .int .i64 0, .int .i64 0, .int .i64 0, .int .i64 0, .int .i64 0, .int .i64 0, .int .i64 code]) ∧ Below w.heap.size w w' := by
 go_enter Tryz.func37, Tryz.ntmps37
 go_wp2
 exact bodyPost_ret (v := .agg #[.slice none 0 0, .int .i64 0, .int .i64 0, .int .i64 0, .int .i64 0, .int .i64 0, .int .i64 0, .int .i64 0, .int .i64 0, .int .i64 code]) (by simp [results, Tryz.results37, go_sem]) rfl ⟨rfl, an _ _⟩
theorem iF (lim mode A B C D coast fr : Int) (a : Option Addr) (n c : Nat) (w : World) :
  Calls Tryz.prog 46 #[.agg #[.slice a n c, .int .i64 lim, .int .i64 mode, .int .i64 A, .int .i64 B, .int .i64 C, .int .i64 D, .int .i64 coast, .int .i64 fr]] w fun e w' => e = .returned (.agg #[.slice a n c, .int .i64 lim, .int .i64 0, .int .i64 0, .int .i64 0, .int .i64 0, .int .i64 0, .int .i64 0, .int .i64 fr]) ∧ Below w.heap.size w w' := by
 go_enter Tryz.func46, Tryz.ntmps46
 go_wp2
 exact bodyPost_ret (v := .agg #[.slice a n c, .int .i64 lim, .int .i64 0, .int .i64 0, .int .i64 0, .int .i64 0, .int .i64 0, .int .i64 0, .int .i64 fr]) (by simp [results, Tryz.results46, go_sem]) rfl ⟨rfl, aM _ _ _⟩
theorem jL (lim mode A B C D coast fr : Int) (a : Option Addr) (n c : Nat) (w : World) :
  Calls Tryz.prog 31 #[.agg #[.slice a n c, .int .i64 lim, .int .i64 mode, .int .i64 A, .int .i64 B, .int .i64 C, .int .i64 D, .int .i64 coast, .int .i64 fr]] w fun e w' => e = .returned (.agg #[.slice a n c, .int .i64 lim, .int .i64 mode, .int .i64 A, .int .i64 B, .int .i64 C, .int .i64 D, .int .i64 coast, .int .i64 fr, .int .i64 0]) ∧ Below w.heap.size w w' := by
 go_enter Tryz.func31, Tryz.ntmps31
 go_wp2
 exact bodyPost_ret (v := .agg #[.slice a n c, .int .i64 lim, .int .i64 mode, .int .i64 A, .int .i64 B, .int .i64 C, .int .i64 D, .int .i64 coast, .int .i64 fr, .int .i64 0]) (by simp [results, Tryz.results31, go_sem]) rfl ⟨rfl, aM _ _ _⟩
end
end Go.Proofs.YtgiodlllokdcdaaGreatDoor
