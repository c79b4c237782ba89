/- Several texts in one: CmA, CmB, CmC. -/
import Derived.Defers
import Derived.Recover
import Derived.WalkLawsBesides
import Derived.Lib.QuietBelow
import Derived.Deep.QuietTactic
import Derived.BigQuiet
import Derived.Test.YteoonaanoenjiaaGreatDoorQObeyOwn22
import Derived.Test.YteoonaanoenjiaaGreatDoorQObeyOwn1
import Derived.Test.YteoonaanoenjiaaGreatDoorQObeyOwn11
import Derived.Test.YteoonaanoenjiaaGreatDoorQObeyOwn8
import Derived.Test.YteoonaanoenjiaaGreatDoorQObeyOwn3
namespace Go.Proofs.YteoonaanoenjiaaGreatDoor
open Go.RowKit Go.Sort
set_option linter.unusedVariables false
theorem belowSetC {B : Nat} {w w1 : World} (h : Below B w w1) {b : Nat} (hb : B ≤ b) (o : Nat) (v : Value) : Below B w (w1.setCell ⟨b, o, none⟩ v) := h.setCell hb v
set_option maxRecDepth 100000 in
theorem toTurnC (p q r s : Int) (w : World) :
    Calls Tryz.prog 31 #[.agg #[.int .i64 p, .int .i64 q, .int .i64 r, .int .i64 s]] w fun e w' => e = .returned (.agg #[.int .i64 p, .int .i64 q, .int .i64 r, .int .i64 s]) ∧ Below w.heap.size w w' := by
  go_enter Tryz.func31, Tryz.ntmps31
  go_wp2
  exact bodyPost_ret (v := .agg #[.int .i64 p, .int .i64 q, .int .i64 r, .int .i64 s]) (by simp [results, Tryz.results31, go_sem]) rfl ⟨rfl, below3 _ _ _ _⟩
set_option maxRecDepth 100000 in
theorem eqTurnC (p q r s : Int) (w : World) :
    Calls Tryz.prog 38 #[.agg #[.int .i64 p, .int .i64 q, .int .i64 r, .int .i64 s], .agg #[.int .i64 p, .int .i64 q, .int .i64 r, .int .i64 s]] w fun e w' => e = .returned (.bool true) ∧ Below w.heap.size w w' := by
  go_enter Tryz.func38, Tryz.ntmps38
  go_wp2
  go_ret
  exact ⟨rfl, below2 _ _ _⟩
theorem OwnD.offD {w : World} {b n k : Nat} {L : List D3} (h : OwnD w b n L k) {b' : Nat} (hne : b ≠ b') (o : Nat) (x : Value) : OwnD (w.setCell ⟨b', o, none⟩ x) b n L k := by
  obtain ⟨cur, hc, r⟩ := h
  exact ⟨cur, by rw [Below.heap_setCell w ⟨b', o, none⟩ x b hne]; exact hc, r⟩
theorem blk_set11 {w : World} {b : Nat} {L : List Value} {t : TypeId} (h : Blk w b L t) (hl : L.length = 11) (kind A B C D wd ht lv fo : Int) (px : ByteArray) (v : Value) : Blk (((((((((((w.setCell ⟨b, 0, none⟩ (.int .i64 kind)).setCell ⟨b, 1, none⟩ (.int .i64 A)).setCell ⟨b, 2, none⟩ (.int .i64 B)).setCell ⟨b, 3, none⟩ (.int .i64 C)).setCell ⟨b, 4, none⟩ (.int .i64 D)).setCell ⟨b, 5, none⟩ v).setCell ⟨b, 6, none⟩ (.int .i64 wd)).setCell ⟨b, 7, none⟩ (.int .i64 ht)).setCell ⟨b, 8, none⟩ (.string px)).setCell ⟨b, 9, none⟩ (.int .i64 lv)).setCell ⟨b, 10, none⟩ (.int .i64 fo)) b [.int .i64 kind, .int .i64 A, .int .i64 B, .int .i64 C, .int .i64 D, v, .int .i64 wd, .int .i64 ht, .string px, .int .i64 lv, .int .i64 fo] t := by
  match L, hl with
  | [x0, x1, x2, x3, x4, x5, x6, x7, x8, x9, x10], _ => exact ((((((((((h.set 0 _).set 1 _).set 2 _).set 3 _).set 4 _).set 5 _).set 6 _).set 7 _).set 8 _).set 9 _).set 10 _
theorem res_toCommand (T : Array Value) (X : World) (b : Nat) (kind A B C D wd ht lv fo : Int) (px : ByteArray) (v : Value) (hT : T.getD 2 undef = .pointer (some ⟨b, 0, none⟩)) (h : Blk X b [.int .i64 kind, .int .i64 A, .int .i64 B, .int .i64 C, .int .i64 D, v, .int .i64 wd, .int .i64 ht, .string px, .int .i64 lv, .int .i64 fo] 45) : (results Tryz.f9 T).run Tryz.prog X = .ok (.agg #[.int .i64 kind, .int .i64 A, .int .i64 B, .int .i64 C, .int .i64 D, v, .int .i64 wd, .int .i64 ht, .string px, .int .i64 lv, .int .i64 fo]) X := by
  obtain ⟨h0, h1, h2, h3, h4, h5, h6, h7, h8, h9, h10⟩ := bcs11 (h)
  simp only [Array.getD_eq_getD_getElem?] at hT
  simp [results, Tryz.results9, go_sem, hT, h0, h1, h2, h3, h4, h5, h6, h7, h8, h9, h10]
set_option maxHeartbeats 4000000 in
set_option maxRecDepth 100000 in
theorem toCommand_any (S : List D3) (kind A B C D wd ht lv fo : Int) (px : ByteArray) (a : Option Addr) (c : Nat) (w : World) (hn : S.length ≤ 1048576) (hS : Dirs w a S S.length) :
    Calls Tryz.prog 9 #[.agg #[.int .i64 kind, .int .i64 A, .int .i64 B, .int .i64 C, .int .i64 D, .slice a S.length c, .int .i64 wd, .int .i64 ht, .string px, .int .i64 lv, .int .i64 fo]] w fun e w' => ∃ b, e = .returned (.agg #[.int .i64 kind, .int .i64 A, .int .i64 B, .int .i64 C, .int .i64 D, .slice (some ⟨b, 0, none⟩) S.length S.length, .int .i64 wd, .int .i64 ht, .string px, .int .i64 lv, .int .i64 fo]) ∧ OwnD w' b S.length S S.length ∧ w.heap.size ≤ b ∧ Below w.heap.size w w' := by
  have B0 := yz (below3 w (.cells #[.int .i64 kind, .int .i64 A, .int .i64 B, .int .i64 C, .int .i64 D, .slice a S.length c, .int .i64 wd, .int .i64 ht, .string px, .int .i64 lv, .int .i64 fo] 31) (.cells #[.int .i64 0, .int .i64 0, .int .i64 0, .int .i64 0, .int .i64 0, .slice none 0 0, .int .i64 0, .int .i64 0, .string ⟨#[]⟩, .int .i64 0, .int .i64 0] 45) (.cells #[.int .i64 kind, .int .i64 0, .int .i64 0, .int .i64 0, .int .i64 0, .slice none 0 0, .int .i64 0, .int .i64 0, .string ⟨#[]⟩, .int .i64 0, .int .i64 0] 45))
  have A0 := yz (((blk_new w [.int .i64 kind, .int .i64 A, .int .i64 B, .int .i64 C, .int .i64 D, .slice a S.length c, .int .i64 wd, .int .i64 ht, .string px, .int .i64 lv, .int .i64 fo] 31).alloc (.cells #[.int .i64 0, .int .i64 0, .int .i64 0, .int .i64 0, .int .i64 0, .slice none 0 0, .int .i64 0, .int .i64 0, .string ⟨#[]⟩, .int .i64 0, .int .i64 0] 45)).alloc (.cells #[.int .i64 kind, .int .i64 0, .int .i64 0, .int .i64 0, .int .i64 0, .slice none 0 0, .int .i64 0, .int .i64 0, .string ⟨#[]⟩, .int .i64 0, .int .i64 0] 45))
  have R0 := yz (by simpa using (blk_new (w.alloc (.cells #[.int .i64 kind, .int .i64 A, .int .i64 B, .int .i64 C, .int .i64 D, .slice a S.length c, .int .i64 wd, .int .i64 ht, .string px, .int .i64 lv, .int .i64 fo] 31)) [.int .i64 0, .int .i64 0, .int .i64 0, .int .i64 0, .int .i64 0, .slice none 0 0, .int .i64 0, .int .i64 0, .string ⟨#[]⟩, .int .i64 0, .int .i64 0] 45).alloc (.cells #[.int .i64 kind, .int .i64 0, .int .i64 0, .int .i64 0, .int .i64 0, .slice none 0 0, .int .i64 0, .int .i64 0, .string ⟨#[]⟩, .int .i64 0, .int .i64 0] 45) : Blk (((w.alloc (.cells #[.int .i64 kind, .int .i64 A, .int .i64 B, .int .i64 C, .int .i64 D, .slice a S.length c, .int .i64 wd, .int .i64 ht, .string px, .int .i64 lv, .int .i64 fo] 31)).alloc (.cells #[.int .i64 0, .int .i64 0, .int .i64 0, .int .i64 0, .int .i64 0, .slice none 0 0, .int .i64 0, .int .i64 0, .string ⟨#[]⟩, .int .i64 0, .int .i64 0] 45)).alloc (.cells #[.int .i64 kind, .int .i64 0, .int .i64 0, .int .i64 0, .int .i64 0, .slice none 0 0, .int .i64 0, .int .i64 0, .string ⟨#[]⟩, .int .i64 0, .int .i64 0] 45)) (w.heap.size + 1) [.int .i64 0, .int .i64 0, .int .i64 0, .int .i64 0, .int .i64 0, .slice none 0 0, .int .i64 0, .int .i64 0, .string ⟨#[]⟩, .int .i64 0, .int .i64 0] 45)
  have U0 := yz (by simpa using blk_new ((w.alloc (.cells #[.int .i64 kind, .int .i64 A, .int .i64 B, .int .i64 C, .int .i64 D, .slice a S.length c, .int .i64 wd, .int .i64 ht, .string px, .int .i64 lv, .int .i64 fo] 31)).alloc (.cells #[.int .i64 0, .int .i64 0, .int .i64 0, .int .i64 0, .int .i64 0, .slice none 0 0, .int .i64 0, .int .i64 0, .string ⟨#[]⟩, .int .i64 0, .int .i64 0] 45)) [.int .i64 kind, .int .i64 0, .int .i64 0, .int .i64 0, .int .i64 0, .slice none 0 0, .int .i64 0, .int .i64 0, .string ⟨#[]⟩, .int .i64 0, .int .i64 0] 45 : Blk (((w.alloc (.cells #[.int .i64 kind, .int .i64 A, .int .i64 B, .int .i64 C, .int .i64 D, .slice a S.length c, .int .i64 wd, .int .i64 ht, .string px, .int .i64 lv, .int .i64 fo] 31)).alloc (.cells #[.int .i64 0, .int .i64 0, .int .i64 0, .int .i64 0, .int .i64 0, .slice none 0 0, .int .i64 0, .int .i64 0, .string ⟨#[]⟩, .int .i64 0, .int .i64 0] 45)).alloc (.cells #[.int .i64 kind, .int .i64 0, .int .i64 0, .int .i64 0, .int .i64 0, .slice none 0 0, .int .i64 0, .int .i64 0, .string ⟨#[]⟩, .int .i64 0, .int .i64 0] 45)) (w.heap.size + 1 + 1) [.int .i64 kind, .int .i64 0, .int .i64 0, .int .i64 0, .int .i64 0, .slice none 0 0, .int .i64 0, .int .i64 0, .string ⟨#[]⟩, .int .i64 0, .int .i64 0] 45)
  have cS := yz (fun W h => toVecS_any S S.length a c W hn h)
  have HS := yz hS
  clear hS
  generalize S.length = n at *
  go_enter Tryz.func9, Tryz.ntmps9
  go_wp2_with fail
  refine (toTurnC A B C D _).mono ?_
  rintro e w1 ⟨rfl, hx⟩
  have U1 := yz ((yx U0).kept hx)
  have R1 := yz ((yx R0).kept hx)
  have A1 := yz ((yx A0).kept hx)
  have B1 := yz (below_call (yx B0) hx)
  clear hx A0 B0 R0 U0
  obtain ⟨q0, q1, q2, q3, q4, q5, q6, q7, q8, q9, q10⟩ := bcs11 (yx A1)
  obtain ⟨u0, u1, u2, u3, u4, u5, u6, u7, u8, u9, u10⟩ := bcs11 (yx U1)
  obtain ⟨f0, f1, f2, f3, f4, f5, f6, f7, f8, f9, f10⟩ := bfs11 (yx U1)
  go_wp2_with fail
  clear q0 q1 q2 q3 q4 q5 q6 q7 q8 q9 q10 u0 u1 u2 u3 u4 u5 u6 u7 u8 u9 u10 f0 f1 f2 f3 f4 f5 f6 f7 f8 f9 f10
  refine (yx cS _ ((yx HS).kept ?_)).mono ?_
  · iterate 4 (refine belowSetC ?_ (show w.heap.size ≤ w.heap.size + 1 + 1 by omega) _ _)
    exact yx B1
  rintro e w2 ⟨rfl, ho, hx⟩
  have O2 := yz ho
  have hle : w.heap.size ≤ (((((w1.setCell ⟨w.heap.size + 1 + 1, 1, none⟩ (.int .i64 A)).setCell ⟨w.heap.size + 1 + 1, 2, none⟩ (.int .i64 B)).setCell ⟨w.heap.size + 1 + 1, 3, none⟩ (.int .i64 C)).setCell ⟨w.heap.size + 1 + 1, 4, none⟩ (.int .i64 D))).heap.size := by simpa using (yx B1).size
  have hlu : w.heap.size + 1 + 1 < (((((w1.setCell ⟨w.heap.size + 1 + 1, 1, none⟩ (.int .i64 A)).setCell ⟨w.heap.size + 1 + 1, 2, none⟩ (.int .i64 B)).setCell ⟨w.heap.size + 1 + 1, 3, none⟩ (.int .i64 C)).setCell ⟨w.heap.size + 1 + 1, 4, none⟩ (.int .i64 D))).heap.size := by simpa using (yx U1).lt
  have U2 := yz ((((((yx U1).set 1 (.int .i64 A)).set 2 (.int .i64 B)).set 3 (.int .i64 C)).set 4 (.int .i64 D)).kept hx)
  have R2 := yz ((((((yx R1).other ⟨w.heap.size + 1 + 1, 1, none⟩ (.int .i64 A) (show w.heap.size + 1 ≠ w.heap.size + 1 + 1 by omega)).other ⟨w.heap.size + 1 + 1, 2, none⟩ (.int .i64 B) (show w.heap.size + 1 ≠ w.heap.size + 1 + 1 by omega)).other ⟨w.heap.size + 1 + 1, 3, none⟩ (.int .i64 C) (show w.heap.size + 1 ≠ w.heap.size + 1 + 1 by omega)).other ⟨w.heap.size + 1 + 1, 4, none⟩ (.int .i64 D) (show w.heap.size + 1 ≠ w.heap.size + 1 + 1 by omega)).kept hx)
  have A2 := yz ((((((yx A1).other ⟨w.heap.size + 1 + 1, 1, none⟩ (.int .i64 A) (show w.heap.size ≠ w.heap.size + 1 + 1 by omega)).other ⟨w.heap.size + 1 + 1, 2, none⟩ (.int .i64 B) (show w.heap.size ≠ w.heap.size + 1 + 1 by omega)).other ⟨w.heap.size + 1 + 1, 3, none⟩ (.int .i64 C) (show w.heap.size ≠ w.heap.size + 1 + 1 by omega)).other ⟨w.heap.size + 1 + 1, 4, none⟩ (.int .i64 D) (show w.heap.size ≠ w.heap.size + 1 + 1 by omega)).kept hx)
  have B2 := yz (below_call (belowSetC (belowSetC (belowSetC (belowSetC (yx B1) (show w.heap.size ≤ w.heap.size + 1 + 1 by omega) 1 (.int .i64 A)) (show w.heap.size ≤ w.heap.size + 1 + 1 by omega) 2 (.int .i64 B)) (show w.heap.size ≤ w.heap.size + 1 + 1 by omega) 3 (.int .i64 C)) (show w.heap.size ≤ w.heap.size + 1 + 1 by omega) 4 (.int .i64 D)) hx)
  clear hx ho A1 B1 R1 U1
  generalize (((((w1.setCell ⟨w.heap.size + 1 + 1, 1, none⟩ (.int .i64 A)).setCell ⟨w.heap.size + 1 + 1, 2, none⟩ (.int .i64 B)).setCell ⟨w.heap.size + 1 + 1, 3, none⟩ (.int .i64 C)).setCell ⟨w.heap.size + 1 + 1, 4, none⟩ (.int .i64 D))).heap.size = bb at *
  obtain ⟨q0, q1, q2, q3, q4, q5, q6, q7, q8, q9, q10⟩ := bcs11 (yx A2)
  obtain ⟨u0, u1, u2, u3, u4, u5, u6, u7, u8, u9, u10⟩ := bcs11 (yx U2)
  obtain ⟨f0, f1, f2, f3, f4, f5, f6, f7, f8, f9, f10⟩ := bfs11 (yx U2)
  go_wp2_with fail
  clear q0 q1 q2 q3 q4 q5 q6 q7 q8 q9 q10 u0 u1 u2 u3 u4 u5 u6 u7 u8 u9 u10 f0 f1 f2 f3 f4 f5 f6 f7 f8 f9 f10
  refine (toFrame_any wd ht px _).mono ?_
  rintro e w3 ⟨rfl, hx⟩
  have O3 := yz (((yx O2).offD (show bb ≠ w.heap.size + 1 + 1 by omega) 5 (.slice (some ⟨bb, 0, none⟩) n n)).kept hx)
  have U3 := yz (((yx U2).set 5 (.slice (some ⟨bb, 0, none⟩) n n)).kept hx)
  have R3 := yz (((yx R2).other ⟨w.heap.size + 1 + 1, 5, none⟩ (.slice (some ⟨bb, 0, none⟩) n n) (show w.heap.size + 1 ≠ w.heap.size + 1 + 1 by omega)).kept hx)
  have A3 := yz (((yx A2).other ⟨w.heap.size + 1 + 1, 5, none⟩ (.slice (some ⟨bb, 0, none⟩) n n) (show w.heap.size ≠ w.heap.size + 1 + 1 by omega)).kept hx)
  have B3 := yz (below_call (belowSetC (yx B2) (show w.heap.size ≤ w.heap.size + 1 + 1 by omega) 5 (.slice (some ⟨bb, 0, none⟩) n n)) hx)
  clear hx A2 B2 R2 U2 O2
  obtain ⟨q0, q1, q2, q3, q4, q5, q6, q7, q8, q9, q10⟩ := bcs11 (yx A3)
  obtain ⟨u0, u1, u2, u3, u4, u5, u6, u7, u8, u9, u10⟩ := bcs11 (yx U3)
  obtain ⟨f0, f1, f2, f3, f4, f5, f6, f7, f8, f9, f10⟩ := bfs11 (yx U3)
  obtain ⟨r0, r1, r2, r3, r4, r5, r6, r7, r8, r9, r10⟩ := bcs11 (yx R3)
  obtain ⟨g0, g1, g2, g3, g4, g5, g6, g7, g8, g9, g10⟩ := bfs11 (yx R3)
  go_wp2_with fail
  clear q0 q1 q2 q3 q4 q5 q6 q7 q8 q9 q10 u0 u1 u2 u3 u4 u5 u6 u7 u8 u9 u10 f0 f1 f2 f3 f4 f5 f6 f7 f8 f9 f10 r0 r1 r2 r3 r4 r5 r6 r7 r8 r9 r10 g0 g1 g2 g3 g4 g5 g6 g7 g8 g9 g10
  refine bodyPost_ret (v := .agg #[.int .i64 kind, .int .i64 A, .int .i64 B, .int .i64 C, .int .i64 D, .slice (some ⟨bb, 0, none⟩) n n, .int .i64 wd, .int .i64 ht, .string px, .int .i64 lv, .int .i64 fo]) ?_ rfl ⟨bb, rfl, ?_, hle, ?_⟩
  · refine res_toCommand _ _ (w.heap.size + 1) kind A B C D wd ht lv fo px _ rfl ?_
    refine blk_set11 (L := [.int .i64 0, .int .i64 0, .int .i64 0, .int .i64 0, .int .i64 0, .slice none 0 0, .int .i64 0, .int .i64 0, .string ⟨#[]⟩, .int .i64 0, .int .i64 0]) ?_ rfl kind A B C D wd ht lv fo px _
    iterate 5 (refine Blk.other ?_ _ _ (show w.heap.size + 1 ≠ w.heap.size + 1 + 1 by omega))
    exact yx R3
  · iterate 11 (refine OwnD.offD ?_ (show bb ≠ w.heap.size + 1 by omega) _ _)
    iterate 5 (refine OwnD.offD ?_ (show bb ≠ w.heap.size + 1 + 1 by omega) _ _)
    exact yx O3
  · iterate 11 (refine belowSetC ?_ (show w.heap.size ≤ w.heap.size + 1 by omega) _ _)
    iterate 5 (refine belowSetC ?_ (show w.heap.size ≤ w.heap.size + 1 + 1 by omega) _ _)
    exact yx B3
set_option maxHeartbeats 2000000 in
set_option maxRecDepth 100000 in
theorem eqCommand_same (S : List D3) (n : Nat) (kind A B C D wd ht lv fo : Int) (px : ByteArray) (a a' : Option Addr) (c c' : Nat) (w : World) (hn : n ≤ 1048576) (hS : Dirs w a S n) (hS' : Dirs w a' S n) :
    Calls Tryz.prog 13 #[.agg #[.int .i64 kind, .int .i64 A, .int .i64 B, .int .i64 C, .int .i64 D, .slice a n c, .int .i64 wd, .int .i64 ht, .string px, .int .i64 lv, .int .i64 fo], .agg #[.int .i64 kind, .int .i64 A, .int .i64 B, .int .i64 C, .int .i64 D, .slice a' n c', .int .i64 wd, .int .i64 ht, .string px, .int .i64 lv, .int .i64 fo]] w fun e w' => e = .returned (.bool true) ∧ Below w.heap.size w w' := by
  have B0 := yz (below2 w (.cells #[.int .i64 kind, .int .i64 A, .int .i64 B, .int .i64 C, .int .i64 D, .slice a n c, .int .i64 wd, .int .i64 ht, .string px, .int .i64 lv, .int .i64 fo] 45) (.cells #[.int .i64 kind, .int .i64 A, .int .i64 B, .int .i64 C, .int .i64 D, .slice a' n c', .int .i64 wd, .int .i64 ht, .string px, .int .i64 lv, .int .i64 fo] 45))
  have A0 := yz ((blk_new w [.int .i64 kind, .int .i64 A, .int .i64 B, .int .i64 C, .int .i64 D, .slice a n c, .int .i64 wd, .int .i64 ht, .string px, .int .i64 lv, .int .i64 fo] 45).alloc (.cells #[.int .i64 kind, .int .i64 A, .int .i64 B, .int .i64 C, .int .i64 D, .slice a' n c', .int .i64 wd, .int .i64 ht, .string px, .int .i64 lv, .int .i64 fo] 45))
  have U0 := yz (by simpa using blk_new (w.alloc (.cells #[.int .i64 kind, .int .i64 A, .int .i64 B, .int .i64 C, .int .i64 D, .slice a n c, .int .i64 wd, .int .i64 ht, .string px, .int .i64 lv, .int .i64 fo] 45)) [.int .i64 kind, .int .i64 A, .int .i64 B, .int .i64 C, .int .i64 D, .slice a' n c', .int .i64 wd, .int .i64 ht, .string px, .int .i64 lv, .int .i64 fo] 45 : Blk ((w.alloc (.cells #[.int .i64 kind, .int .i64 A, .int .i64 B, .int .i64 C, .int .i64 D, .slice a n c, .int .i64 wd, .int .i64 ht, .string px, .int .i64 lv, .int .i64 fo] 45)).alloc (.cells #[.int .i64 kind, .int .i64 A, .int .i64 B, .int .i64 C, .int .i64 D, .slice a' n c', .int .i64 wd, .int .i64 ht, .string px, .int .i64 lv, .int .i64 fo] 45)) (w.heap.size + 1) [.int .i64 kind, .int .i64 A, .int .i64 B, .int .i64 C, .int .i64 D, .slice a' n c', .int .i64 wd, .int .i64 ht, .string px, .int .i64 lv, .int .i64 fo] 45)
  have HS := yz (hS.kept (yx B0))
  have HT := yz (hS'.kept (yx B0))
  clear hS hS'
  obtain ⟨q0, q1, q2, q3, q4, q5, q6, q7, q8, q9, q10⟩ := bcs11 (yx A0)
  obtain ⟨u0, u1, u2, u3, u4, u5, u6, u7, u8, u9, u10⟩ := bcs11 (yx U0)
  go_enter Tryz.func13, Tryz.ntmps13
  go_wp2_with fail
  clear q0 q1 q2 q3 q4 q5 q6 q7 q8 q9 q10 u0 u1 u2 u3 u4 u5 u6 u7 u8 u9 u10
  refine (eqTurnC A B C D _).mono ?_
  rintro e w1 ⟨rfl, hx⟩
  have A1 := yz ((yx A0).kept hx)
  have U1 := yz ((yx U0).kept hx)
  have B1 := yz (below_call (yx B0) hx)
  have S1 := yz ((yx HS).kept hx)
  have T1 := yz ((yx HT).kept hx)
  clear hx A0 U0 B0 HS HT
  obtain ⟨q0, q1, q2, q3, q4, q5, q6, q7, q8, q9, q10⟩ := bcs11 (yx A1)
  obtain ⟨u0, u1, u2, u3, u4, u5, u6, u7, u8, u9, u10⟩ := bcs11 (yx U1)
  go_wp2_with fail
  clear q0 q1 q2 q3 q4 q5 q6 q7 q8 q9 q10 u0 u1 u2 u3 u4 u5 u6 u7 u8 u9 u10
  refine (eqVecS_same S n a a' c c' _ hn (yx S1) (yx T1)).mono ?_
  rintro e w2 ⟨rfl, hx⟩
  have A2 := yz ((yx A1).kept hx)
  have U2 := yz ((yx U1).kept hx)
  have B2 := yz (below_call (yx B1) hx)
  clear hx A1 U1 B1 S1 T1
  obtain ⟨q0, q1, q2, q3, q4, q5, q6, q7, q8, q9, q10⟩ := bcs11 (yx A2)
  obtain ⟨u0, u1, u2, u3, u4, u5, u6, u7, u8, u9, u10⟩ := bcs11 (yx U2)
  go_wp2_with fail
  clear q0 q1 q2 q3 q4 q5 q6 q7 q8 q9 q10 u0 u1 u2 u3 u4 u5 u6 u7 u8 u9 u10
  refine (eqFrame_same wd ht px _).mono ?_
  rintro e w3 ⟨rfl, hx⟩
  have A3 := yz ((yx A2).kept hx)
  have U3 := yz ((yx U2).kept hx)
  have B3 := yz (below_call (yx B2) hx)
  clear hx A2 U2 B2
  obtain ⟨q0, q1, q2, q3, q4, q5, q6, q7, q8, q9, q10⟩ := bcs11 (yx A3)
  obtain ⟨u0, u1, u2, u3, u4, u5, u6, u7, u8, u9, u10⟩ := bcs11 (yx U3)
  go_wp2_with fail
  clear q0 q1 q2 q3 q4 q5 q6 q7 q8 q9 q10 u0 u1 u2 u3 u4 u5 u6 u7 u8 u9 u10
  go_ret
  exact ⟨rfl, yx B3⟩
def ErrCmd (b : Addr) (w : World) : Prop := w.cell? ⟨0, 0, none⟩ = some (.iface 309 (.pointer (some b)))
theorem ErrCmd.lt {b : Addr} {w : World} (h : ErrCmd b w) : 0 < w.heap.size := World.block_lt_of_cell? w _ h
theorem ErrCmd.kept {b : Addr} {w w' : World} (h : ErrCmd b w) (hB : Below w.heap.size w w') : ErrCmd b w' := by
  unfold ErrCmd
  rw [hB.cell (p := ⟨0, 0, none⟩) h.lt]
  exact h
def noCmd (b : Addr) : Ending := .panicked [{ v := .iface 309 (.pointer (some b)), recovered := false }]
theorem must_yes (w : World) : Calls Tryz.prog 73 #[.bool true] w fun e w' => e = .returned (.tuple #[]) ∧ w' = w := by
  go_enter Tryz.func73, Tryz.ntmps73
  go_wp2
  go_end0
  exact ⟨rfl, rfl⟩
theorem must_no (p : Addr) (w : World) (h : ErrCmd p w) : Calls Tryz.prog 73 #[.bool false] w fun e w' => e = noCmd p ∧ w' = w := by
  unfold ErrCmd at h
  go_enter Tryz.func73, Tryz.ntmps73
  go_wp2
  exact ⟨rfl, rfl, rfl⟩
def frEq (a b a' b' : Int) (s s' : ByteArray) : Bool := decide (a = a') && decide (b = b') && decide (s.toList = s'.toList)
theorem equal_frame (a b a' b' : Int) (s s' : ByteArray) (w : World) : (Op.equalIn 10000 43 (.agg #[.int .i64 a, .int .i64 b, .string s]) (.agg #[.int .i64 a', .int .i64 b', .string s'])).run Tryz.prog w = .ok (frEq a b a' b' s s') w := by
  have h := run_equalIn_struct (P := Tryz.prog) w 9999 43 #[.int .i64 a, .int .i64 b, .string s] #[.int .i64 a', .int .i64 b', .string s'] (by kernel_rfl) (by kernel_rfl)
  refine h.trans ?_
  by_cases h1 : a = a'
  · by_cases h2 : b = b'
    · by_cases h3 : s.toList = s'.toList
      · simp [go_sem, frEq, h1, h2, h3]
      · simp [go_sem, frEq, h1, h2, h3]
    · simp [go_sem, frEq, h1, h2]
  · simp [go_sem, frEq, h1]
theorem eql_frame (a b a' b' : Int) (s s' : ByteArray) (w : World) : (binOp .eql 43 (.agg #[.int .i64 a, .int .i64 b, .string s]) (.agg #[.int .i64 a', .int .i64 b', .string s'])).run Tryz.prog w = .ok (.bool (frEq a b a' b' s s')) w := by
  rw [run_eql_struct, equal_frame]; rfl
set_option maxRecDepth 100000 in
theorem equal_len (a a' : Option Addr) (n m c c' : Nat) (w : World) (hne : n ≠ m) :
    Calls Tryz.prog 120 #[.slice a n c, .slice a' m c'] w fun e w' => e = .returned (.bool false) ∧ Below w.heap.size w w' := by
  have h : ¬ (n : Int) = (m : Int) := by omega
  go_enter Tryz.func120, Tryz.ntmps120
  go_wp2_with fail
  go_ret
  exact ⟨rfl, Below.refl _ _⟩
set_option maxHeartbeats 1000000 in
set_option maxRecDepth 100000 in
theorem equal_same (L : List D3) (a a' : Option Addr) (n c c' : Nat) (w : World) (hn : n ≤ 1048576) (hS : Dirs w a L n) (hS' : Dirs w a' L n) :
    Calls Tryz.prog 120 #[.slice a n c, .slice a' n c'] w fun e w' => e = .returned (.bool true) ∧ Below w.heap.size w w' := by
  rcases hS with rfl | ⟨b, o, rfl, hb, hc⟩
  · go_enter Tryz.func120, Tryz.ntmps120
    go_wp2_with fail
    refine wp_loop_rounds 1 ?_
    rw [rounds_succ]
    go_wp2_with fail
    go_ret
    exact ⟨rfl, Below.refl _ _⟩
  rcases hS' with rfl | ⟨b', o', rfl, hb', hc'⟩
  · go_enter Tryz.func120, Tryz.ntmps120
    go_wp2_with fail
    refine wp_loop_rounds 1 ?_
    rw [rounds_succ]
    go_wp2_with fail
    go_ret
    exact ⟨rfl, Below.refl _ _⟩
  have HC := yz hc
  have HC' := yz hc'
  clear hc hc'
  go_enter Tryz.func120, Tryz.ntmps120
  go_wp2_with fail
  go_loopw [13] (fun i wr => ∃ k : Nat, k ≤ n ∧ i = .int .i64 k ∧ Hid (Below w.heap.size w wr)) (fun i _ => n - (intOf i).toNat)
  case atStart => exact ⟨0, by omega, rfl, yz (Below.refl _ _)⟩
  case round =>
    obtain ⟨k, hk, rfl, HB⟩ := hrel
    by_cases hkn : k < n
    · have hkn2 : (k : Int) < (n : Int) := by omega
      obtain ⟨c0, c1, c2⟩ := ((yx HC) k hkn).kept hb (yx HB)
      obtain ⟨d0, d1, d2⟩ := ((yx HC') k hkn).kept hb' (yx HB)
      generalize (vA L k).1 = x0 at *
      generalize (vA L k).2.1 = x1 at *
      generalize (vA L k).2.2 = x2 at *
      have r0 := cell_regrown c0
      have r1 := cell_regrown c1
      have r2 := cell_regrown c2
      have t0 := cell_regrown d0
      have t1 := cell_regrown d1
      have t2 := cell_regrown d2
      have hq : ∀ W : World, (binOp .neq 111 (.agg #[.int .i64 x0, .int .i64 x1, .int .i64 x2]) (.agg #[.int .i64 x0, .int .i64 x1, .int .i64 x2])).run Tryz.prog W = .ok (.bool false) W := fun W => by
        rw [neq_vec]
        simp [eqB]
      clear c0 c1 c2 d0 d1 d2
      go_wp2_with fail
      refine wp_region_quiet_below (by kernel_rfl) (by kernel_rfl) ?_
      repeat (go_big_quiet_step (fail))
      refine wpQuiet_nil ?_
      intro _ hw'
      obtain ⟨⟨dq, osq⟩, hw''⟩ := hw'
      subst hw''
      have hx := below_call (yx HB) (below_regrown wr dq osq)
      generalize grow (redrawn wr dq) osq = W2 at hx ⊢
      have HB2 := yz hx
      clear hx HB r0 r1 r2 t0 t1 t2
      go_wp2_with fail
      go_roundw
      case rel => exact ⟨k + 1, by omega, by go_num, HB2⟩
      case measure => simp [intOf]; omega
    · have hkn' : k = n := by omega
      subst hkn'
      go_wp2_with fail
      go_ret
      exact ⟨rfl, yx HB⟩
def sameC (c d : Cm) (q : Bool) : Bool := decide (c.kind = d.kind) && eqT c.A c.B c.C c.D d.A d.B d.C d.D && q && frEq c.wd c.ht d.wd d.ht c.px d.px && decide (c.lv = d.lv) && decide (c.fo = d.fo)
set_option maxHeartbeats 4000000 in
set_option maxRecDepth 100000 in
theorem sameCommand_any (kind' A' B' C' D' wd' ht' lv' fo' kind A B C D wd ht lv fo : Int) (px' px : ByteArray) (S' S : List D3) (a a' : Option Addr) (n m c c' : Nat) (q : Bool) (w : World)
    (hq : ∀ W : World, Below w.heap.size w W → Calls Tryz.prog 120 #[.slice a' m c', .slice a n c] W fun e w' => e = .returned (.bool q) ∧ Below W.heap.size W w') :
    Calls Tryz.prog 79 #[.agg #[.int .i64 kind', .int .i64 A', .int .i64 B', .int .i64 C', .int .i64 D', .slice a' m c', .int .i64 wd', .int .i64 ht', .string px', .int .i64 lv', .int .i64 fo'], .agg #[.int .i64 kind, .int .i64 A, .int .i64 B, .int .i64 C, .int .i64 D, .slice a n c, .int .i64 wd, .int .i64 ht, .string px, .int .i64 lv, .int .i64 fo]] w fun e w' => e = .returned (.bool (sameC ⟨kind', A', B', C', D', S', wd', ht', px', lv', fo'⟩ ⟨kind, A, B, C, D, S, wd, ht, px, lv, fo⟩ q)) ∧ Below w.heap.size w w' := by
  have B0 := yz (below2 w (.cells #[.int .i64 kind', .int .i64 A', .int .i64 B', .int .i64 C', .int .i64 D', .slice a' m c', .int .i64 wd', .int .i64 ht', .string px', .int .i64 lv', .int .i64 fo'] 45) (.cells #[.int .i64 kind, .int .i64 A, .int .i64 B, .int .i64 C, .int .i64 D, .slice a n c, .int .i64 wd, .int .i64 ht, .string px, .int .i64 lv, .int .i64 fo] 45))
  have A0 := yz ((blk_new w [.int .i64 kind', .int .i64 A', .int .i64 B', .int .i64 C', .int .i64 D', .slice a' m c', .int .i64 wd', .int .i64 ht', .string px', .int .i64 lv', .int .i64 fo'] 45).alloc (.cells #[.int .i64 kind, .int .i64 A, .int .i64 B, .int .i64 C, .int .i64 D, .slice a n c, .int .i64 wd, .int .i64 ht, .string px, .int .i64 lv, .int .i64 fo] 45))
  have U0 := yz (by simpa using blk_new (w.alloc (.cells #[.int .i64 kind', .int .i64 A', .int .i64 B', .int .i64 C', .int .i64 D', .slice a' m c', .int .i64 wd', .int .i64 ht', .string px', .int .i64 lv', .int .i64 fo'] 45)) [.int .i64 kind, .int .i64 A, .int .i64 B, .int .i64 C, .int .i64 D, .slice a n c, .int .i64 wd, .int .i64 ht, .string px, .int .i64 lv, .int .i64 fo] 45 : Blk ((w.alloc (.cells #[.int .i64 kind', .int .i64 A', .int .i64 B', .int .i64 C', .int .i64 D', .slice a' m c', .int .i64 wd', .int .i64 ht', .string px', .int .i64 lv', .int .i64 fo'] 45)).alloc (.cells #[.int .i64 kind, .int .i64 A, .int .i64 B, .int .i64 C, .int .i64 D, .slice a n c, .int .i64 wd, .int .i64 ht, .string px, .int .i64 lv, .int .i64 fo] 45)) (w.heap.size + 1) [.int .i64 kind, .int .i64 A, .int .i64 B, .int .i64 C, .int .i64 D, .slice a n c, .int .i64 wd, .int .i64 ht, .string px, .int .i64 lv, .int .i64 fo] 45)
  have cQ := yz (hq _ (yx B0))
  clear hq
  obtain ⟨y1, e1⟩ : ∃ y, decide (kind' = kind) = y := ⟨_, rfl⟩
  obtain ⟨y2, e2⟩ : ∃ y, eqT A' B' C' D' A B C D = y := ⟨_, rfl⟩
  obtain ⟨y4, e4⟩ : ∃ y, frEq wd' ht' wd ht px' px = y := ⟨_, rfl⟩
  obtain ⟨y5, e5⟩ : ∃ y, decide (lv' = lv) = y := ⟨_, rfl⟩
  obtain ⟨y6, e6⟩ : ∃ y, decide (fo' = fo) = y := ⟨_, rfl⟩
  have HO : Hid (sameC ⟨kind', A', B', C', D', S', wd', ht', px', lv', fo'⟩ ⟨kind, A, B, C, D, S, wd, ht, px, lv, fo⟩ q = (y1 && y2 && q && y4 && y5 && y6)) := yz (by unfold sameC; dsimp only; rw [e1, e2, e4, e5, e6])
  have x1 : (kind' == kind) = y1 := by rw [← e1]; rfl
  have x5 : (lv' == lv) = y5 := by rw [← e5]; rfl
  have x6 : (fo' == fo) = y6 := by rw [← e6]; rfl
  have x2 : ∀ W : World, (binOp .eql 35 (.agg #[.int .i64 A', .int .i64 B', .int .i64 C', .int .i64 D']) (.agg #[.int .i64 A, .int .i64 B, .int .i64 C, .int .i64 D])).run Tryz.prog W = .ok (.bool y2) W := fun W => by rw [eql_turn, e2]
  have x4 : ∀ W : World, (binOp .eql 43 (.agg #[.int .i64 wd', .int .i64 ht', .string px']) (.agg #[.int .i64 wd, .int .i64 ht, .string px])).run Tryz.prog W = .ok (.bool y4) W := fun W => by rw [eql_frame, e4]
  clear e1 e2 e4 e5 e6
  cases y1
  · go_enter Tryz.func79, Tryz.ntmps79
    go_wp2_with fail
    go_ret
    exact ⟨by rw [yx HO]; rfl, yx B0⟩
  cases y2
  · go_enter Tryz.func79, Tryz.ntmps79
    go_wp2_with fail
    go_ret
    exact ⟨by rw [yx HO]; rfl, yx B0⟩
  go_enter Tryz.func79, Tryz.ntmps79
  go_wp2_with fail
  refine (yx cQ).mono ?_
  rintro e w1 ⟨rfl, hx⟩
  have A1 := yz ((yx A0).kept hx)
  have U1 := yz ((yx U0).kept hx)
  have B1 := yz (below_call (yx B0) hx)
  clear hx A0 U0 B0 cQ
  obtain ⟨q0, q1, q2, q3, q4, q5, q6, q7, q8, q9, q10⟩ := bcs11 (yx A1)
  obtain ⟨u0, u1, u2, u3, u4, u5, u6, u7, u8, u9, u10⟩ := bcs11 (yx U1)
  cases q
  · go_wp2_with fail
    go_ret
    exact ⟨by rw [yx HO]; rfl, yx B1⟩
  cases y4
  · go_wp2_with fail
    go_ret
    exact ⟨by rw [yx HO]; rfl, yx B1⟩
  cases y5
  · go_wp2_with fail
    go_ret
    exact ⟨by rw [yx HO]; rfl, yx B1⟩
  go_wp2_with fail
  go_ret
  exact ⟨by rw [yx HO]; simp, yx B1⟩
set_option maxRecDepth 100000 in
theorem resetCmd_any (w : World) : Calls Tryz.prog 250 #[.agg #[]] w fun e w' => e = .returned (.agg #[.int .i64 1, .int .i64 0, .int .i64 0, .int .i64 0, .int .i64 0, .slice none 0 0, .int .i64 0, .int .i64 0, .string ⟨#[]⟩, .int .i64 0, .int .i64 0]) ∧ Below w.heap.size w w' := by
  go_enter Tryz.func250, Tryz.ntmps250
  go_wp2
  exact bodyPost_ret (v := .agg #[.int .i64 1, .int .i64 0, .int .i64 0, .int .i64 0, .int .i64 0, .slice none 0 0, .int .i64 0, .int .i64 0, .string ⟨#[]⟩, .int .i64 0, .int .i64 0]) (by simp [results, Tryz.results250, go_sem]) rfl ⟨rfl, below2 _ _ _⟩
set_option maxRecDepth 100000 in
theorem gyroCmd_any (A B C D : Int) (w : World) : Calls Tryz.prog 252 #[.agg #[.int .i64 A, .int .i64 B, .int .i64 C, .int .i64 D]] w fun e w' => e = .returned (.agg #[.int .i64 2, .int .i64 A, .int .i64 B, .int .i64 C, .int .i64 D, .slice none 0 0, .int .i64 0, .int .i64 0, .string ⟨#[]⟩, .int .i64 0, .int .i64 0]) ∧ Below w.heap.size w w' := by
  go_enter Tryz.func252, Tryz.ntmps252
  go_wp2
  exact bodyPost_ret (v := .agg #[.int .i64 2, .int .i64 A, .int .i64 B, .int .i64 C, .int .i64 D, .slice none 0 0, .int .i64 0, .int .i64 0, .string ⟨#[]⟩, .int .i64 0, .int .i64 0]) (by simp [results, Tryz.results252, go_sem]) rfl ⟨rfl, below2 _ _ _⟩
set_option maxRecDepth 100000 in
theorem lookCmd_any (a : Option Addr) (n c : Nat) (w : World) : Calls Tryz.prog 254 #[.agg #[.slice a n c]] w fun e w' => e = .returned (.agg #[.int .i64 3, .int .i64 0, .int .i64 0, .int .i64 0, .int .i64 0, .slice a n c, .int .i64 0, .int .i64 0, .string ⟨#[]⟩, .int .i64 0, .int .i64 0]) ∧ Below w.heap.size w w' := by
  go_enter Tryz.func254, Tryz.ntmps254
  go_wp2
  exact bodyPost_ret (v := .agg #[.int .i64 3, .int .i64 0, .int .i64 0, .int .i64 0, .int .i64 0, .slice a n c, .int .i64 0, .int .i64 0, .string ⟨#[]⟩, .int .i64 0, .int .i64 0]) (by simp [results, Tryz.results254, go_sem]) rfl ⟨rfl, below2 _ _ _⟩
set_option maxRecDepth 100000 in
theorem frameCmd_any (wd ht lv fo : Int) (px : ByteArray) (w : World) : Calls Tryz.prog 256 #[.agg #[.int .i64 wd, .int .i64 ht, .string px, .int .i64 lv, .int .i64 fo]] w fun e w' => e = .returned (.agg #[.int .i64 4, .int .i64 0, .int .i64 0, .int .i64 0, .int .i64 0, .slice none 0 0, .int .i64 wd, .int .i64 ht, .string px, .int .i64 lv, .int .i64 fo]) ∧ Below w.heap.size w w' := by
  go_enter Tryz.func256, Tryz.ntmps256
  go_wp2
  exact bodyPost_ret (v := .agg #[.int .i64 4, .int .i64 0, .int .i64 0, .int .i64 0, .int .i64 0, .slice none 0 0, .int .i64 wd, .int .i64 ht, .string px, .int .i64 lv, .int .i64 fo]) (by simp [results, Tryz.results256, go_sem]) rfl ⟨rfl, below2 _ _ _⟩
set_option maxRecDepth 100000 in
theorem isLevelC (lv : Int) (w : World) : Calls Tryz.prog 77 #[.int .i64 lv] w fun e w' => e = .returned (.bool (spanB 0 255 lv)) ∧ w' = w := by
  by_cases h : 0 ≤ lv
  · go_enter Tryz.func77, Tryz.ntmps77
    go_wp2
    go_ret
    exact ⟨by simp [spanB, h], rfl⟩
  · go_enter Tryz.func77, Tryz.ntmps77
    go_wp2
    go_ret
    exact ⟨by rw [span_low (by omega)]; rfl, rfl⟩
set_option maxRecDepth 100000 in
theorem isFocalC (lv : Int) (w : World) : Calls Tryz.prog 78 #[.int .i64 lv] w fun e w' => e = .returned (.bool (spanB 1 40 lv)) ∧ w' = w := by
  by_cases h : 1 ≤ lv
  · go_enter Tryz.func78, Tryz.ntmps78
    go_wp2
    go_ret
    exact ⟨by simp [spanB, h], rfl⟩
  · go_enter Tryz.func78, Tryz.ntmps78
    go_wp2
    go_ret
    exact ⟨by rw [span_low (by omega)]; rfl, rfl⟩
end Go.Proofs.YteoonaanoenjiaaGreatDoor
