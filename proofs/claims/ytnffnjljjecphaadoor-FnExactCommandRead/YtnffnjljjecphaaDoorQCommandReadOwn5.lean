/- Several texts in one: CmA, VecF, TurnA. -/
import Derived.Deep.QuietTactic
import Derived.BigQuiet
import Derived.BigRegion
import Derived.Lib.QuietBelow
import Derived.Test.YtnffnjljjecphaaDoorQCommandReadOwn2
import Derived.Test.YtnffnjljjecphaaDoorQCommandReadOwn3
import Derived.Test.YtnffnjljjecphaaDoorQCommandReadOwn4
namespace Go.Proofs.YtnffnjljjecphaaDoor
open Go.RowKit Go.Sort
set_option linter.unusedVariables false

theorem belowSetC {B : Nat} {w w1 : World} (h : Below B w w1) {b : Nat} (hb : B ≤ b) (o : Nat) (v : Value) : Below B w (w1.setCell ⟨b, o, none⟩ v) := h.setCell hb v
set_option maxRecDepth 100000 in
theorem toTurnC (p q r s : Int) (w : World) :
    Calls Tryd.prog 30 #[.agg #[.int .i64 p, .int .i64 q, .int .i64 r, .int .i64 s]] w fun e w' => e = .returned (.agg #[.int .i64 p, .int .i64 q, .int .i64 r, .int .i64 s]) ∧ Below w.heap.size w w' := by
  go_enter Tryd.func30, Tryd.ntmps30
  go_wp2
  exact bodyPost_ret (v := .agg #[.int .i64 p, .int .i64 q, .int .i64 r, .int .i64 s]) (by simp [results, Tryd.results30, go_sem]) rfl ⟨rfl, below3 _ _ _ _⟩
set_option maxRecDepth 100000 in
theorem eqTurnC (p q r s : Int) (w : World) :
    Calls Tryd.prog 35 #[.agg #[.int .i64 p, .int .i64 q, .int .i64 r, .int .i64 s], .agg #[.int .i64 p, .int .i64 q, .int .i64 r, .int .i64 s]] w fun e w' => e = .returned (.bool true) ∧ Below w.heap.size w w' := by
  go_enter Tryd.func35, Tryd.ntmps35
  go_wp2
  go_ret
  exact ⟨rfl, below2 _ _ _⟩
/-- what szCommand leaves -/
def szC (n : Nat) (px : ByteArray) : Int := if (1048576 : Int) - (n : Int) < 0 then -1 else szI ((1048576 : Int) - (n : Int)) px
set_option maxHeartbeats 1000000 in
set_option maxRecDepth 100000 in
theorem szCommand_any (kind A B C D wd ht lv fo : Int) (px : ByteArray) (a : Option Addr) (n c : Nat) (w : World) (hm : n ≤ 9223372036854775807) (hs : px.size ≤ maxLen) :
    Calls Tryd.prog 7 #[.agg #[.int .i64 kind, .int .i64 A, .int .i64 B, .int .i64 C, .int .i64 D, .slice a n c, .int .i64 wd, .int .i64 ht, .string px, .int .i64 lv, .int .i64 fo], .int .i64 1048576] w fun e w' => e = .returned (.int .i64 (szC n px)) ∧ Below w.heap.size w w' := by
  have B0 := hide (below1 w (.cells #[.int .i64 kind, .int .i64 A, .int .i64 B, .int .i64 C, .int .i64 D, .slice a n c, .int .i64 wd, .int .i64 ht, .string px, .int .i64 lv, .int .i64 fo] 28))
  have A0 := hide (blk_new w [.int .i64 kind, .int .i64 A, .int .i64 B, .int .i64 C, .int .i64 D, .slice a n c, .int .i64 wd, .int .i64 ht, .string px, .int .i64 lv, .int .i64 fo] 28)
  by_cases hn : (1048576 : Int) < (n : Int)
  · have HO : Hid (szC n px = -1) := hide (by unfold szC; rw [if_pos (by omega)])
    have cZ := hide (fun W => szVecS_big a n c 1048576 W (by omega) (by omega) hn hm)
    have q0 := (unhide A0).cell 0 _ rfl
    have q1 := (unhide A0).cell 1 _ rfl
    have q2 := (unhide A0).cell 2 _ rfl
    have q3 := (unhide A0).cell 3 _ rfl
    have q4 := (unhide A0).cell 4 _ rfl
    have q5 := (unhide A0).cell 5 _ rfl
    have q6 := (unhide A0).cell 6 _ rfl
    have q7 := (unhide A0).cell 7 _ rfl
    have q8 := (unhide A0).cell 8 _ rfl
    have q9 := (unhide A0).cell 9 _ rfl
    have q10 := (unhide A0).cell 10 _ rfl
    go_enter Tryd.func7, Tryd.ntmps7
    go_wp2_with fail
    refine (unhide cZ _).mono ?_
    rintro e w1 ⟨rfl, hw⟩
    rw [hw]
    clear hw w1
    go_wp2_with fail
    go_ret
    exact ⟨by rw [unhide HO]; rfl, unhide B0⟩
  have h0 : ¬ (1048576 : Int) - (n : Int) < 0 := by omega
  have HO : Hid (szC n px = szI ((1048576 : Int) - (n : Int)) px) := hide (by unfold szC; rw [if_neg h0])
  have cZ := hide (fun W => szVecS_any a n c 1048576 W (by omega) (by omega) (by omega))
  have cF := hide (fun W => szFrame_any wd ht px ((1048576 : Int) - (n : Int)) W hs (by omega) (by omega))
  have hneg : szI ((1048576 : Int) - (n : Int)) px < 0 → szI ((1048576 : Int) - (n : Int)) px = -1 := by
    unfold szI
    split
    · intro _; rfl
    · intro h; omega
  generalize szI ((1048576 : Int) - (n : Int)) px = z at *
  have q0 := (unhide A0).cell 0 _ rfl
  have q1 := (unhide A0).cell 1 _ rfl
  have q2 := (unhide A0).cell 2 _ rfl
  have q3 := (unhide A0).cell 3 _ rfl
  have q4 := (unhide A0).cell 4 _ rfl
  have q5 := (unhide A0).cell 5 _ rfl
  have q6 := (unhide A0).cell 6 _ rfl
  have q7 := (unhide A0).cell 7 _ rfl
  have q8 := (unhide A0).cell 8 _ rfl
  have q9 := (unhide A0).cell 9 _ rfl
  have q10 := (unhide A0).cell 10 _ rfl
  go_enter Tryd.func7, Tryd.ntmps7
  go_wp2_with fail
  refine (unhide cZ _).mono ?_
  rintro e w1 ⟨rfl, hw⟩
  rw [hw]
  clear hw w1
  go_wp2_with fail
  refine (unhide cF _).mono ?_
  rintro e w1 ⟨rfl, hx⟩
  have B1 := hide (below_call (unhide B0) hx)
  clear hx q0 q1 q2 q3 q4 q5 q6 q7 q8 q9 q10 A0 B0
  by_cases hz : z < 0
  · have hz' := hneg hz
    clear hneg
    go_wp2_with fail
    go_ret
    exact ⟨by rw [unhide HO, hz']; rfl, unhide B1⟩
  · clear hneg
    go_wp2_with fail
    go_ret
    exact ⟨by rw [unhide HO]; rfl, unhide B1⟩
theorem OwnD.offD {w : World} {b n k : Nat} {L : List D3} (h : OwnD w b n L k) {b' : Nat} (hne : b ≠ b') (o : Nat) (x : Value) : OwnD (w.setCell ⟨b', o, none⟩ x) b n L k := by
  obtain ⟨cur, hc, r⟩ := h
  exact ⟨cur, by rw [Below.heap_setCell w ⟨b', o, none⟩ x b hne]; exact hc, r⟩
theorem blk_set11 {w : World} {b : Nat} {L : List Value} {t : TypeId} (h : Blk w b L t) (hl : L.length = 11) (kind A B C D wd ht lv fo : Int) (px : ByteArray) (v : Value) : Blk (((((((((((w.setCell ⟨b, 0, none⟩ (.int .i64 kind)).setCell ⟨b, 1, none⟩ (.int .i64 A)).setCell ⟨b, 2, none⟩ (.int .i64 B)).setCell ⟨b, 3, none⟩ (.int .i64 C)).setCell ⟨b, 4, none⟩ (.int .i64 D)).setCell ⟨b, 5, none⟩ v).setCell ⟨b, 6, none⟩ (.int .i64 wd)).setCell ⟨b, 7, none⟩ (.int .i64 ht)).setCell ⟨b, 8, none⟩ (.string px)).setCell ⟨b, 9, none⟩ (.int .i64 lv)).setCell ⟨b, 10, none⟩ (.int .i64 fo)) b [.int .i64 kind, .int .i64 A, .int .i64 B, .int .i64 C, .int .i64 D, v, .int .i64 wd, .int .i64 ht, .string px, .int .i64 lv, .int .i64 fo] t := by
  match L, hl with
  | [x0, x1, x2, x3, x4, x5, x6, x7, x8, x9, x10], _ => exact ((((((((((h.set 0 _).set 1 _).set 2 _).set 3 _).set 4 _).set 5 _).set 6 _).set 7 _).set 8 _).set 9 _).set 10 _
theorem res_toCommand (T : Array Value) (X : World) (b : Nat) (kind A B C D wd ht lv fo : Int) (px : ByteArray) (v : Value) (hT : T.getD 2 undef = .pointer (some ⟨b, 0, none⟩)) (h : Blk X b [.int .i64 kind, .int .i64 A, .int .i64 B, .int .i64 C, .int .i64 D, v, .int .i64 wd, .int .i64 ht, .string px, .int .i64 lv, .int .i64 fo] 35) : (results Tryd.f9 T).run Tryd.prog X = .ok (.agg #[.int .i64 kind, .int .i64 A, .int .i64 B, .int .i64 C, .int .i64 D, v, .int .i64 wd, .int .i64 ht, .string px, .int .i64 lv, .int .i64 fo]) X := by
  have h0 := h.cell 0 _ rfl
  have h1 := h.cell 1 _ rfl
  have h2 := h.cell 2 _ rfl
  have h3 := h.cell 3 _ rfl
  have h4 := h.cell 4 _ rfl
  have h5 := h.cell 5 _ rfl
  have h6 := h.cell 6 _ rfl
  have h7 := h.cell 7 _ rfl
  have h8 := h.cell 8 _ rfl
  have h9 := h.cell 9 _ rfl
  have h10 := h.cell 10 _ rfl
  simp only [Array.getD_eq_getD_getElem?] at hT
  simp [results, Tryd.results9, go_sem, hT, h0, h1, h2, h3, h4, h5, h6, h7, h8, h9, h10]

set_option maxHeartbeats 4000000 in
set_option maxRecDepth 100000 in
theorem toCommand_any (S : List D3) (kind A B C D wd ht lv fo : Int) (px : ByteArray) (a : Option Addr) (c : Nat) (w : World) (hn : S.length ≤ 1048576) (hS : Dirs w a S S.length) :
    Calls Tryd.prog 9 #[.agg #[.int .i64 kind, .int .i64 A, .int .i64 B, .int .i64 C, .int .i64 D, .slice a S.length c, .int .i64 wd, .int .i64 ht, .string px, .int .i64 lv, .int .i64 fo]] w fun e w' => ∃ b, e = .returned (.agg #[.int .i64 kind, .int .i64 A, .int .i64 B, .int .i64 C, .int .i64 D, .slice (some ⟨b, 0, none⟩) S.length S.length, .int .i64 wd, .int .i64 ht, .string px, .int .i64 lv, .int .i64 fo]) ∧ OwnD w' b S.length S S.length ∧ w.heap.size ≤ b ∧ Below w.heap.size w w' := by
  have B0 := hide (below3 w (.cells #[.int .i64 kind, .int .i64 A, .int .i64 B, .int .i64 C, .int .i64 D, .slice a S.length c, .int .i64 wd, .int .i64 ht, .string px, .int .i64 lv, .int .i64 fo] 28) (.cells #[.int .i64 0, .int .i64 0, .int .i64 0, .int .i64 0, .int .i64 0, .slice none 0 0, .int .i64 0, .int .i64 0, .string ⟨#[]⟩, .int .i64 0, .int .i64 0] 35) (.cells #[.int .i64 kind, .int .i64 0, .int .i64 0, .int .i64 0, .int .i64 0, .slice none 0 0, .int .i64 0, .int .i64 0, .string ⟨#[]⟩, .int .i64 0, .int .i64 0] 35))
  have A0 := hide (((blk_new w [.int .i64 kind, .int .i64 A, .int .i64 B, .int .i64 C, .int .i64 D, .slice a S.length c, .int .i64 wd, .int .i64 ht, .string px, .int .i64 lv, .int .i64 fo] 28).alloc (.cells #[.int .i64 0, .int .i64 0, .int .i64 0, .int .i64 0, .int .i64 0, .slice none 0 0, .int .i64 0, .int .i64 0, .string ⟨#[]⟩, .int .i64 0, .int .i64 0] 35)).alloc (.cells #[.int .i64 kind, .int .i64 0, .int .i64 0, .int .i64 0, .int .i64 0, .slice none 0 0, .int .i64 0, .int .i64 0, .string ⟨#[]⟩, .int .i64 0, .int .i64 0] 35))
  have R0 := hide (by simpa using (blk_new (w.alloc (.cells #[.int .i64 kind, .int .i64 A, .int .i64 B, .int .i64 C, .int .i64 D, .slice a S.length c, .int .i64 wd, .int .i64 ht, .string px, .int .i64 lv, .int .i64 fo] 28)) [.int .i64 0, .int .i64 0, .int .i64 0, .int .i64 0, .int .i64 0, .slice none 0 0, .int .i64 0, .int .i64 0, .string ⟨#[]⟩, .int .i64 0, .int .i64 0] 35).alloc (.cells #[.int .i64 kind, .int .i64 0, .int .i64 0, .int .i64 0, .int .i64 0, .slice none 0 0, .int .i64 0, .int .i64 0, .string ⟨#[]⟩, .int .i64 0, .int .i64 0] 35) : Blk (((w.alloc (.cells #[.int .i64 kind, .int .i64 A, .int .i64 B, .int .i64 C, .int .i64 D, .slice a S.length c, .int .i64 wd, .int .i64 ht, .string px, .int .i64 lv, .int .i64 fo] 28)).alloc (.cells #[.int .i64 0, .int .i64 0, .int .i64 0, .int .i64 0, .int .i64 0, .slice none 0 0, .int .i64 0, .int .i64 0, .string ⟨#[]⟩, .int .i64 0, .int .i64 0] 35)).alloc (.cells #[.int .i64 kind, .int .i64 0, .int .i64 0, .int .i64 0, .int .i64 0, .slice none 0 0, .int .i64 0, .int .i64 0, .string ⟨#[]⟩, .int .i64 0, .int .i64 0] 35)) (w.heap.size + 1) [.int .i64 0, .int .i64 0, .int .i64 0, .int .i64 0, .int .i64 0, .slice none 0 0, .int .i64 0, .int .i64 0, .string ⟨#[]⟩, .int .i64 0, .int .i64 0] 35)
  have U0 := hide (by simpa using blk_new ((w.alloc (.cells #[.int .i64 kind, .int .i64 A, .int .i64 B, .int .i64 C, .int .i64 D, .slice a S.length c, .int .i64 wd, .int .i64 ht, .string px, .int .i64 lv, .int .i64 fo] 28)).alloc (.cells #[.int .i64 0, .int .i64 0, .int .i64 0, .int .i64 0, .int .i64 0, .slice none 0 0, .int .i64 0, .int .i64 0, .string ⟨#[]⟩, .int .i64 0, .int .i64 0] 35)) [.int .i64 kind, .int .i64 0, .int .i64 0, .int .i64 0, .int .i64 0, .slice none 0 0, .int .i64 0, .int .i64 0, .string ⟨#[]⟩, .int .i64 0, .int .i64 0] 35 : Blk (((w.alloc (.cells #[.int .i64 kind, .int .i64 A, .int .i64 B, .int .i64 C, .int .i64 D, .slice a S.length c, .int .i64 wd, .int .i64 ht, .string px, .int .i64 lv, .int .i64 fo] 28)).alloc (.cells #[.int .i64 0, .int .i64 0, .int .i64 0, .int .i64 0, .int .i64 0, .slice none 0 0, .int .i64 0, .int .i64 0, .string ⟨#[]⟩, .int .i64 0, .int .i64 0] 35)).alloc (.cells #[.int .i64 kind, .int .i64 0, .int .i64 0, .int .i64 0, .int .i64 0, .slice none 0 0, .int .i64 0, .int .i64 0, .string ⟨#[]⟩, .int .i64 0, .int .i64 0] 35)) (w.heap.size + 1 + 1) [.int .i64 kind, .int .i64 0, .int .i64 0, .int .i64 0, .int .i64 0, .slice none 0 0, .int .i64 0, .int .i64 0, .string ⟨#[]⟩, .int .i64 0, .int .i64 0] 35)
  have cS := hide (fun W h => toVecS_any S S.length a c W hn h)
  have HS := hide hS
  clear hS
  generalize S.length = n at *
  go_enter Tryd.func9, Tryd.ntmps9
  go_wp2_with fail
  refine (toTurnC A B C D _).mono ?_
  rintro e w1 ⟨rfl, hx⟩
  have U1 := hide ((unhide U0).kept hx)
  have R1 := hide ((unhide R0).kept hx)
  have A1 := hide ((unhide A0).kept hx)
  have B1 := hide (below_call (unhide B0) hx)
  clear hx A0 B0 R0 U0
  have q0 := (unhide A1).cell 0 _ rfl
  have q1 := (unhide A1).cell 1 _ rfl
  have q2 := (unhide A1).cell 2 _ rfl
  have q3 := (unhide A1).cell 3 _ rfl
  have q4 := (unhide A1).cell 4 _ rfl
  have q5 := (unhide A1).cell 5 _ rfl
  have q6 := (unhide A1).cell 6 _ rfl
  have q7 := (unhide A1).cell 7 _ rfl
  have q8 := (unhide A1).cell 8 _ rfl
  have q9 := (unhide A1).cell 9 _ rfl
  have q10 := (unhide A1).cell 10 _ rfl
  have u0 := (unhide U1).cell 0 _ rfl
  have u1 := (unhide U1).cell 1 _ rfl
  have u2 := (unhide U1).cell 2 _ rfl
  have u3 := (unhide U1).cell 3 _ rfl
  have u4 := (unhide U1).cell 4 _ rfl
  have u5 := (unhide U1).cell 5 _ rfl
  have u6 := (unhide U1).cell 6 _ rfl
  have u7 := (unhide U1).cell 7 _ rfl
  have u8 := (unhide U1).cell 8 _ rfl
  have u9 := (unhide U1).cell 9 _ rfl
  have u10 := (unhide U1).cell 10 _ rfl
  have f0 := (unhide U1).free 0
  have f1 := (unhide U1).free 1
  have f2 := (unhide U1).free 2
  have f3 := (unhide U1).free 3
  have f4 := (unhide U1).free 4
  have f5 := (unhide U1).free 5
  have f6 := (unhide U1).free 6
  have f7 := (unhide U1).free 7
  have f8 := (unhide U1).free 8
  have f9 := (unhide U1).free 9
  have f10 := (unhide U1).free 10
  go_wp2_with fail
  clear q0 q1 q2 q3 q4 q5 q6 q7 q8 q9 q10 u0 u1 u2 u3 u4 u5 u6 u7 u8 u9 u10 f0 f1 f2 f3 f4 f5 f6 f7 f8 f9 f10
  refine (unhide cS _ ((unhide HS).kept ?_)).mono ?_
  · iterate 4 (refine belowSetC ?_ (show w.heap.size ≤ w.heap.size + 1 + 1 by omega) _ _)
    exact unhide B1
  rintro e w2 ⟨rfl, ho, hx⟩
  have O2 := hide ho
  have hle : w.heap.size ≤ (((((w1.setCell ⟨w.heap.size + 1 + 1, 1, none⟩ (.int .i64 A)).setCell ⟨w.heap.size + 1 + 1, 2, none⟩ (.int .i64 B)).setCell ⟨w.heap.size + 1 + 1, 3, none⟩ (.int .i64 C)).setCell ⟨w.heap.size + 1 + 1, 4, none⟩ (.int .i64 D))).heap.size := by simpa using (unhide B1).size
  have hlu : w.heap.size + 1 + 1 < (((((w1.setCell ⟨w.heap.size + 1 + 1, 1, none⟩ (.int .i64 A)).setCell ⟨w.heap.size + 1 + 1, 2, none⟩ (.int .i64 B)).setCell ⟨w.heap.size + 1 + 1, 3, none⟩ (.int .i64 C)).setCell ⟨w.heap.size + 1 + 1, 4, none⟩ (.int .i64 D))).heap.size := by simpa using (unhide U1).lt
  have U2 := hide ((((((unhide U1).set 1 (.int .i64 A)).set 2 (.int .i64 B)).set 3 (.int .i64 C)).set 4 (.int .i64 D)).kept hx)
  have R2 := hide ((((((unhide R1).other ⟨w.heap.size + 1 + 1, 1, none⟩ (.int .i64 A) (show w.heap.size + 1 ≠ w.heap.size + 1 + 1 by omega)).other ⟨w.heap.size + 1 + 1, 2, none⟩ (.int .i64 B) (show w.heap.size + 1 ≠ w.heap.size + 1 + 1 by omega)).other ⟨w.heap.size + 1 + 1, 3, none⟩ (.int .i64 C) (show w.heap.size + 1 ≠ w.heap.size + 1 + 1 by omega)).other ⟨w.heap.size + 1 + 1, 4, none⟩ (.int .i64 D) (show w.heap.size + 1 ≠ w.heap.size + 1 + 1 by omega)).kept hx)
  have A2 := hide ((((((unhide A1).other ⟨w.heap.size + 1 + 1, 1, none⟩ (.int .i64 A) (show w.heap.size ≠ w.heap.size + 1 + 1 by omega)).other ⟨w.heap.size + 1 + 1, 2, none⟩ (.int .i64 B) (show w.heap.size ≠ w.heap.size + 1 + 1 by omega)).other ⟨w.heap.size + 1 + 1, 3, none⟩ (.int .i64 C) (show w.heap.size ≠ w.heap.size + 1 + 1 by omega)).other ⟨w.heap.size + 1 + 1, 4, none⟩ (.int .i64 D) (show w.heap.size ≠ w.heap.size + 1 + 1 by omega)).kept hx)
  have B2 := hide (below_call (belowSetC (belowSetC (belowSetC (belowSetC (unhide B1) (show w.heap.size ≤ w.heap.size + 1 + 1 by omega) 1 (.int .i64 A)) (show w.heap.size ≤ w.heap.size + 1 + 1 by omega) 2 (.int .i64 B)) (show w.heap.size ≤ w.heap.size + 1 + 1 by omega) 3 (.int .i64 C)) (show w.heap.size ≤ w.heap.size + 1 + 1 by omega) 4 (.int .i64 D)) hx)
  clear hx ho A1 B1 R1 U1
  generalize (((((w1.setCell ⟨w.heap.size + 1 + 1, 1, none⟩ (.int .i64 A)).setCell ⟨w.heap.size + 1 + 1, 2, none⟩ (.int .i64 B)).setCell ⟨w.heap.size + 1 + 1, 3, none⟩ (.int .i64 C)).setCell ⟨w.heap.size + 1 + 1, 4, none⟩ (.int .i64 D))).heap.size = bb at *
  have q0 := (unhide A2).cell 0 _ rfl
  have q1 := (unhide A2).cell 1 _ rfl
  have q2 := (unhide A2).cell 2 _ rfl
  have q3 := (unhide A2).cell 3 _ rfl
  have q4 := (unhide A2).cell 4 _ rfl
  have q5 := (unhide A2).cell 5 _ rfl
  have q6 := (unhide A2).cell 6 _ rfl
  have q7 := (unhide A2).cell 7 _ rfl
  have q8 := (unhide A2).cell 8 _ rfl
  have q9 := (unhide A2).cell 9 _ rfl
  have q10 := (unhide A2).cell 10 _ rfl
  have u0 := (unhide U2).cell 0 _ rfl
  have u1 := (unhide U2).cell 1 _ rfl
  have u2 := (unhide U2).cell 2 _ rfl
  have u3 := (unhide U2).cell 3 _ rfl
  have u4 := (unhide U2).cell 4 _ rfl
  have u5 := (unhide U2).cell 5 _ rfl
  have u6 := (unhide U2).cell 6 _ rfl
  have u7 := (unhide U2).cell 7 _ rfl
  have u8 := (unhide U2).cell 8 _ rfl
  have u9 := (unhide U2).cell 9 _ rfl
  have u10 := (unhide U2).cell 10 _ rfl
  have f0 := (unhide U2).free 0
  have f1 := (unhide U2).free 1
  have f2 := (unhide U2).free 2
  have f3 := (unhide U2).free 3
  have f4 := (unhide U2).free 4
  have f5 := (unhide U2).free 5
  have f6 := (unhide U2).free 6
  have f7 := (unhide U2).free 7
  have f8 := (unhide U2).free 8
  have f9 := (unhide U2).free 9
  have f10 := (unhide U2).free 10
  go_wp2_with fail
  clear q0 q1 q2 q3 q4 q5 q6 q7 q8 q9 q10 u0 u1 u2 u3 u4 u5 u6 u7 u8 u9 u10 f0 f1 f2 f3 f4 f5 f6 f7 f8 f9 f10
  refine (toFrame_any wd ht px _).mono ?_
  rintro e w3 ⟨rfl, hx⟩
  have O3 := hide (((unhide O2).offD (show bb ≠ w.heap.size + 1 + 1 by omega) 5 (.slice (some ⟨bb, 0, none⟩) n n)).kept hx)
  have U3 := hide (((unhide U2).set 5 (.slice (some ⟨bb, 0, none⟩) n n)).kept hx)
  have R3 := hide (((unhide R2).other ⟨w.heap.size + 1 + 1, 5, none⟩ (.slice (some ⟨bb, 0, none⟩) n n) (show w.heap.size + 1 ≠ w.heap.size + 1 + 1 by omega)).kept hx)
  have A3 := hide (((unhide A2).other ⟨w.heap.size + 1 + 1, 5, none⟩ (.slice (some ⟨bb, 0, none⟩) n n) (show w.heap.size ≠ w.heap.size + 1 + 1 by omega)).kept hx)
  have B3 := hide (below_call (belowSetC (unhide B2) (show w.heap.size ≤ w.heap.size + 1 + 1 by omega) 5 (.slice (some ⟨bb, 0, none⟩) n n)) hx)
  clear hx A2 B2 R2 U2 O2
  have q0 := (unhide A3).cell 0 _ rfl
  have q1 := (unhide A3).cell 1 _ rfl
  have q2 := (unhide A3).cell 2 _ rfl
  have q3 := (unhide A3).cell 3 _ rfl
  have q4 := (unhide A3).cell 4 _ rfl
  have q5 := (unhide A3).cell 5 _ rfl
  have q6 := (unhide A3).cell 6 _ rfl
  have q7 := (unhide A3).cell 7 _ rfl
  have q8 := (unhide A3).cell 8 _ rfl
  have q9 := (unhide A3).cell 9 _ rfl
  have q10 := (unhide A3).cell 10 _ rfl
  have u0 := (unhide U3).cell 0 _ rfl
  have u1 := (unhide U3).cell 1 _ rfl
  have u2 := (unhide U3).cell 2 _ rfl
  have u3 := (unhide U3).cell 3 _ rfl
  have u4 := (unhide U3).cell 4 _ rfl
  have u5 := (unhide U3).cell 5 _ rfl
  have u6 := (unhide U3).cell 6 _ rfl
  have u7 := (unhide U3).cell 7 _ rfl
  have u8 := (unhide U3).cell 8 _ rfl
  have u9 := (unhide U3).cell 9 _ rfl
  have u10 := (unhide U3).cell 10 _ rfl
  have f0 := (unhide U3).free 0
  have f1 := (unhide U3).free 1
  have f2 := (unhide U3).free 2
  have f3 := (unhide U3).free 3
  have f4 := (unhide U3).free 4
  have f5 := (unhide U3).free 5
  have f6 := (unhide U3).free 6
  have f7 := (unhide U3).free 7
  have f8 := (unhide U3).free 8
  have f9 := (unhide U3).free 9
  have f10 := (unhide U3).free 10
  have r0 := (unhide R3).cell 0 _ rfl
  have r1 := (unhide R3).cell 1 _ rfl
  have r2 := (unhide R3).cell 2 _ rfl
  have r3 := (unhide R3).cell 3 _ rfl
  have r4 := (unhide R3).cell 4 _ rfl
  have r5 := (unhide R3).cell 5 _ rfl
  have r6 := (unhide R3).cell 6 _ rfl
  have r7 := (unhide R3).cell 7 _ rfl
  have r8 := (unhide R3).cell 8 _ rfl
  have r9 := (unhide R3).cell 9 _ rfl
  have r10 := (unhide R3).cell 10 _ rfl
  have g0 := (unhide R3).free 0
  have g1 := (unhide R3).free 1
  have g2 := (unhide R3).free 2
  have g3 := (unhide R3).free 3
  have g4 := (unhide R3).free 4
  have g5 := (unhide R3).free 5
  have g6 := (unhide R3).free 6
  have g7 := (unhide R3).free 7
  have g8 := (unhide R3).free 8
  have g9 := (unhide R3).free 9
  have g10 := (unhide R3).free 10
  go_wp2_with fail
  clear q0 q1 q2 q3 q4 q5 q6 q7 q8 q9 q10 u0 u1 u2 u3 u4 u5 u6 u7 u8 u9 u10 f0 f1 f2 f3 f4 f5 f6 f7 f8 f9 f10 r0 r1 r2 r3 r4 r5 r6 r7 r8 r9 r10 g0 g1 g2 g3 g4 g5 g6 g7 g8 g9 g10
  refine bodyPost_ret (v := .agg #[.int .i64 kind, .int .i64 A, .int .i64 B, .int .i64 C, .int .i64 D, .slice (some ⟨bb, 0, none⟩) n n, .int .i64 wd, .int .i64 ht, .string px, .int .i64 lv, .int .i64 fo]) ?_ rfl ⟨bb, rfl, ?_, hle, ?_⟩
  · refine res_toCommand _ _ (w.heap.size + 1) kind A B C D wd ht lv fo px _ rfl ?_
    refine blk_set11 (L := [.int .i64 0, .int .i64 0, .int .i64 0, .int .i64 0, .int .i64 0, .slice none 0 0, .int .i64 0, .int .i64 0, .string ⟨#[]⟩, .int .i64 0, .int .i64 0]) ?_ rfl kind A B C D wd ht lv fo px _
    iterate 5 (refine Blk.other ?_ _ _ (show w.heap.size + 1 ≠ w.heap.size + 1 + 1 by omega))
    exact unhide R3
  · iterate 11 (refine OwnD.offD ?_ (show bb ≠ w.heap.size + 1 by omega) _ _)
    iterate 5 (refine OwnD.offD ?_ (show bb ≠ w.heap.size + 1 + 1 by omega) _ _)
    exact unhide O3
  · iterate 11 (refine belowSetC ?_ (show w.heap.size ≤ w.heap.size + 1 by omega) _ _)
    iterate 5 (refine belowSetC ?_ (show w.heap.size ≤ w.heap.size + 1 + 1 by omega) _ _)
    exact unhide B3

set_option maxHeartbeats 2000000 in
set_option maxRecDepth 100000 in
theorem eqCommand_same (S : List D3) (n : Nat) (kind A B C D wd ht lv fo : Int) (px : ByteArray) (a a' : Option Addr) (c c' : Nat) (w : World) (hn : n ≤ 1048576) (hS : Dirs w a S n) (hS' : Dirs w a' S n) :
    Calls Tryd.prog 11 #[.agg #[.int .i64 kind, .int .i64 A, .int .i64 B, .int .i64 C, .int .i64 D, .slice a n c, .int .i64 wd, .int .i64 ht, .string px, .int .i64 lv, .int .i64 fo], .agg #[.int .i64 kind, .int .i64 A, .int .i64 B, .int .i64 C, .int .i64 D, .slice a' n c', .int .i64 wd, .int .i64 ht, .string px, .int .i64 lv, .int .i64 fo]] w fun e w' => e = .returned (.bool true) ∧ Below w.heap.size w w' := by
  have B0 := hide (below2 w (.cells #[.int .i64 kind, .int .i64 A, .int .i64 B, .int .i64 C, .int .i64 D, .slice a n c, .int .i64 wd, .int .i64 ht, .string px, .int .i64 lv, .int .i64 fo] 35) (.cells #[.int .i64 kind, .int .i64 A, .int .i64 B, .int .i64 C, .int .i64 D, .slice a' n c', .int .i64 wd, .int .i64 ht, .string px, .int .i64 lv, .int .i64 fo] 35))
  have A0 := hide ((blk_new w [.int .i64 kind, .int .i64 A, .int .i64 B, .int .i64 C, .int .i64 D, .slice a n c, .int .i64 wd, .int .i64 ht, .string px, .int .i64 lv, .int .i64 fo] 35).alloc (.cells #[.int .i64 kind, .int .i64 A, .int .i64 B, .int .i64 C, .int .i64 D, .slice a' n c', .int .i64 wd, .int .i64 ht, .string px, .int .i64 lv, .int .i64 fo] 35))
  have U0 := hide (by simpa using blk_new (w.alloc (.cells #[.int .i64 kind, .int .i64 A, .int .i64 B, .int .i64 C, .int .i64 D, .slice a n c, .int .i64 wd, .int .i64 ht, .string px, .int .i64 lv, .int .i64 fo] 35)) [.int .i64 kind, .int .i64 A, .int .i64 B, .int .i64 C, .int .i64 D, .slice a' n c', .int .i64 wd, .int .i64 ht, .string px, .int .i64 lv, .int .i64 fo] 35 : Blk ((w.alloc (.cells #[.int .i64 kind, .int .i64 A, .int .i64 B, .int .i64 C, .int .i64 D, .slice a n c, .int .i64 wd, .int .i64 ht, .string px, .int .i64 lv, .int .i64 fo] 35)).alloc (.cells #[.int .i64 kind, .int .i64 A, .int .i64 B, .int .i64 C, .int .i64 D, .slice a' n c', .int .i64 wd, .int .i64 ht, .string px, .int .i64 lv, .int .i64 fo] 35)) (w.heap.size + 1) [.int .i64 kind, .int .i64 A, .int .i64 B, .int .i64 C, .int .i64 D, .slice a' n c', .int .i64 wd, .int .i64 ht, .string px, .int .i64 lv, .int .i64 fo] 35)
  have HS := hide (hS.kept (unhide B0))
  have HT := hide (hS'.kept (unhide B0))
  clear hS hS'
  have q0 := (unhide A0).cell 0 _ rfl
  have q1 := (unhide A0).cell 1 _ rfl
  have q2 := (unhide A0).cell 2 _ rfl
  have q3 := (unhide A0).cell 3 _ rfl
  have q4 := (unhide A0).cell 4 _ rfl
  have q5 := (unhide A0).cell 5 _ rfl
  have q6 := (unhide A0).cell 6 _ rfl
  have q7 := (unhide A0).cell 7 _ rfl
  have q8 := (unhide A0).cell 8 _ rfl
  have q9 := (unhide A0).cell 9 _ rfl
  have q10 := (unhide A0).cell 10 _ rfl
  have u0 := (unhide U0).cell 0 _ rfl
  have u1 := (unhide U0).cell 1 _ rfl
  have u2 := (unhide U0).cell 2 _ rfl
  have u3 := (unhide U0).cell 3 _ rfl
  have u4 := (unhide U0).cell 4 _ rfl
  have u5 := (unhide U0).cell 5 _ rfl
  have u6 := (unhide U0).cell 6 _ rfl
  have u7 := (unhide U0).cell 7 _ rfl
  have u8 := (unhide U0).cell 8 _ rfl
  have u9 := (unhide U0).cell 9 _ rfl
  have u10 := (unhide U0).cell 10 _ rfl
  go_enter Tryd.func11, Tryd.ntmps11
  go_wp2_with fail
  clear q0 q1 q2 q3 q4 q5 q6 q7 q8 q9 q10 u0 u1 u2 u3 u4 u5 u6 u7 u8 u9 u10
  refine (eqTurnC A B C D _).mono ?_
  rintro e w1 ⟨rfl, hx⟩
  have A1 := hide ((unhide A0).kept hx)
  have U1 := hide ((unhide U0).kept hx)
  have B1 := hide (below_call (unhide B0) hx)
  have S1 := hide ((unhide HS).kept hx)
  have T1 := hide ((unhide HT).kept hx)
  clear hx A0 U0 B0 HS HT
  have q0 := (unhide A1).cell 0 _ rfl
  have q1 := (unhide A1).cell 1 _ rfl
  have q2 := (unhide A1).cell 2 _ rfl
  have q3 := (unhide A1).cell 3 _ rfl
  have q4 := (unhide A1).cell 4 _ rfl
  have q5 := (unhide A1).cell 5 _ rfl
  have q6 := (unhide A1).cell 6 _ rfl
  have q7 := (unhide A1).cell 7 _ rfl
  have q8 := (unhide A1).cell 8 _ rfl
  have q9 := (unhide A1).cell 9 _ rfl
  have q10 := (unhide A1).cell 10 _ rfl
  have u0 := (unhide U1).cell 0 _ rfl
  have u1 := (unhide U1).cell 1 _ rfl
  have u2 := (unhide U1).cell 2 _ rfl
  have u3 := (unhide U1).cell 3 _ rfl
  have u4 := (unhide U1).cell 4 _ rfl
  have u5 := (unhide U1).cell 5 _ rfl
  have u6 := (unhide U1).cell 6 _ rfl
  have u7 := (unhide U1).cell 7 _ rfl
  have u8 := (unhide U1).cell 8 _ rfl
  have u9 := (unhide U1).cell 9 _ rfl
  have u10 := (unhide U1).cell 10 _ rfl
  go_wp2_with fail
  clear q0 q1 q2 q3 q4 q5 q6 q7 q8 q9 q10 u0 u1 u2 u3 u4 u5 u6 u7 u8 u9 u10
  refine (eqVecS_same S n a a' c c' _ hn (unhide S1) (unhide T1)).mono ?_
  rintro e w2 ⟨rfl, hx⟩
  have A2 := hide ((unhide A1).kept hx)
  have U2 := hide ((unhide U1).kept hx)
  have B2 := hide (below_call (unhide B1) hx)
  clear hx A1 U1 B1 S1 T1
  have q0 := (unhide A2).cell 0 _ rfl
  have q1 := (unhide A2).cell 1 _ rfl
  have q2 := (unhide A2).cell 2 _ rfl
  have q3 := (unhide A2).cell 3 _ rfl
  have q4 := (unhide A2).cell 4 _ rfl
  have q5 := (unhide A2).cell 5 _ rfl
  have q6 := (unhide A2).cell 6 _ rfl
  have q7 := (unhide A2).cell 7 _ rfl
  have q8 := (unhide A2).cell 8 _ rfl
  have q9 := (unhide A2).cell 9 _ rfl
  have q10 := (unhide A2).cell 10 _ rfl
  have u0 := (unhide U2).cell 0 _ rfl
  have u1 := (unhide U2).cell 1 _ rfl
  have u2 := (unhide U2).cell 2 _ rfl
  have u3 := (unhide U2).cell 3 _ rfl
  have u4 := (unhide U2).cell 4 _ rfl
  have u5 := (unhide U2).cell 5 _ rfl
  have u6 := (unhide U2).cell 6 _ rfl
  have u7 := (unhide U2).cell 7 _ rfl
  have u8 := (unhide U2).cell 8 _ rfl
  have u9 := (unhide U2).cell 9 _ rfl
  have u10 := (unhide U2).cell 10 _ rfl
  go_wp2_with fail
  clear q0 q1 q2 q3 q4 q5 q6 q7 q8 q9 q10 u0 u1 u2 u3 u4 u5 u6 u7 u8 u9 u10
  refine (eqFrame_same wd ht px _).mono ?_
  rintro e w3 ⟨rfl, hx⟩
  have A3 := hide ((unhide A2).kept hx)
  have U3 := hide ((unhide U2).kept hx)
  have B3 := hide (below_call (unhide B2) hx)
  clear hx A2 U2 B2
  have q0 := (unhide A3).cell 0 _ rfl
  have q1 := (unhide A3).cell 1 _ rfl
  have q2 := (unhide A3).cell 2 _ rfl
  have q3 := (unhide A3).cell 3 _ rfl
  have q4 := (unhide A3).cell 4 _ rfl
  have q5 := (unhide A3).cell 5 _ rfl
  have q6 := (unhide A3).cell 6 _ rfl
  have q7 := (unhide A3).cell 7 _ rfl
  have q8 := (unhide A3).cell 8 _ rfl
  have q9 := (unhide A3).cell 9 _ rfl
  have q10 := (unhide A3).cell 10 _ rfl
  have u0 := (unhide U3).cell 0 _ rfl
  have u1 := (unhide U3).cell 1 _ rfl
  have u2 := (unhide U3).cell 2 _ rfl
  have u3 := (unhide U3).cell 3 _ rfl
  have u4 := (unhide U3).cell 4 _ rfl
  have u5 := (unhide U3).cell 5 _ rfl
  have u6 := (unhide U3).cell 6 _ rfl
  have u7 := (unhide U3).cell 7 _ rfl
  have u8 := (unhide U3).cell 8 _ rfl
  have u9 := (unhide U3).cell 9 _ rfl
  have u10 := (unhide U3).cell 10 _ rfl
  go_wp2_with fail
  clear q0 q1 q2 q3 q4 q5 q6 q7 q8 q9 q10 u0 u1 u2 u3 u4 u5 u6 u7 u8 u9 u10
  go_ret
  exact ⟨rfl, unhide B3⟩
end Go.Proofs.YtnffnjljjecphaaDoor

namespace Go.Proofs.YtnffnjljjecphaaDoor
open Go.RowKit
set_option linter.unusedVariables false

theorem rem_fits {a b : Int} (h : b ≠ 0) (hb : -1000000 ≤ b ∧ b ≤ 1000000) : wrap64 (a.tmod b) = a.tmod b ∧ -1000000 ≤ a.tmod b ∧ a.tmod b ≤ 1000000 := by
  have := tmod_lt a b h
  have h2 : -1000000 ≤ a.tmod b ∧ a.tmod b ≤ 1000000 := by omega
  exact ⟨wrap_id (by omega) (by omega), h2⟩

theorem below_drewN (w : World) (n : Nat) : Below w.heap.size w (w.drewN n) := ⟨rfl, rfl, rfl, Nat.le_refl _, fun _ _ => rfl⟩

set_option maxRecDepth 100000 in
theorem shared_any (a b : Int) (w : World) (ha : -1000000 ≤ a ∧ a ≤ 1000000) (hb : -1000000 ≤ b ∧ b ≤ 1000000) :
    Calls Tryd.prog 112 #[.int .i64 a, .int .i64 b] w fun e w' => e = .returned (.int .i64 ((Int.gcd a b : Nat) : Int)) ∧ ∃ n, w' = w.drewN n := by
  go_enter Tryd.func112, Tryd.ntmps112
  go_wp2
  go_loopw [0, 1] (fun u v wr => ∃ p q : Int, u = .int .i64 p ∧ v = .int .i64 q ∧ Hid (-1000000 ≤ p ∧ p ≤ 1000000) ∧ Hid (-1000000 ≤ q ∧ q ≤ 1000000) ∧ Hid (Int.gcd p q = Int.gcd a b) ∧ ∃ n, wr = w.drewN n) (fun _ v _ => (intOf v).natAbs)
  case atStart => exact ⟨a, b, rfl, rfl, hide ha, hide hb, hide rfl, 0, rfl⟩
  case round =>
    obtain ⟨p, q, rfl, rfl, hp, hq, hg, nd, rfl⟩ := hrel
    by_cases h0 : q = 0
    · subst h0
      have HG := hide (gcd_zero p)
      by_cases hn : p < 0
      · have HW : Hid (wrap64 (-p) = -p) := hide (by have := unhide hp; exact wrap_id (by omega) (by omega))
        have HR := hide (show ((Int.gcd a b : Nat) : Int) = -p by rw [← unhide hg, unhide HG, if_pos hn])
        go_wp2
        go_ret
        exact ⟨by rw [unhide HR]; exact congrArg (fun x => Ending.returned (Value.int .i64 x)) (unhide HW), nd, rfl⟩
      · have HR := hide (show ((Int.gcd a b : Nat) : Int) = p by rw [← unhide hg, unhide HG, if_neg hn])
        go_wp2
        go_ret
        exact ⟨by rw [unhide HR]; rfl, nd, rfl⟩
    · have hz : (q == 0) = false := by simp [h0]
      have hr := rem_fits (a := p) h0 (unhide hq)
      have HL := hide (tmod_lt p q h0)
      have HS := hide (gcd_step p q)
      obtain ⟨r, hre⟩ : ∃ r, p.tmod q = r := ⟨_, rfl⟩
      have hrw := hr.1
      have HRB := hide hr.2
      rw [hre] at hrw HRB HL HS
      clear hr
      go_wp2
      go_region
      go_wp2
      go_roundw
      case rel => exact ⟨q, r, rfl, rfl, hq, HRB, hide ((unhide HS).trans (unhide hg)), nd + 1, rfl⟩
      case measure => simp [intOf]; exact unhide HL

set_option maxRecDepth 100000 in
theorem l02Gcd_any (a b : Int) (w : World) (ha : -1000000 ≤ a ∧ a ≤ 1000000) (hb : -1000000 ≤ b ∧ b ≤ 1000000) :
    Calls Tryd.prog 95 #[.int .i64 a, .int .i64 b] w fun e w' => e = .returned (.int .i64 ((Int.gcd a b : Nat) : Int)) ∧ ∃ n, w' = w.drewN n := by
  go_enter Tryd.func95, Tryd.ntmps95
  go_wp2
  go_loopw [0, 1] (fun u v wr => ∃ p q : Int, u = .int .i64 p ∧ v = .int .i64 q ∧ Hid (-1000000 ≤ p ∧ p ≤ 1000000) ∧ Hid (-1000000 ≤ q ∧ q ≤ 1000000) ∧ Hid (Int.gcd p q = Int.gcd a b) ∧ ∃ n, wr = w.drewN n) (fun _ v _ => (intOf v).natAbs)
  case atStart => exact ⟨a, b, rfl, rfl, hide ha, hide hb, hide rfl, 0, rfl⟩
  case round =>
    obtain ⟨p, q, rfl, rfl, hp, hq, hg, nd, rfl⟩ := hrel
    by_cases h0 : q = 0
    · subst h0
      have HG := hide (gcd_zero p)
      by_cases hn : p < 0
      · have HW : Hid (wrap64 (-p) = -p) := hide (by have := unhide hp; exact wrap_id (by omega) (by omega))
        have HR := hide (show ((Int.gcd a b : Nat) : Int) = -p by rw [← unhide hg, unhide HG, if_pos hn])
        go_wp2
        go_ret
        exact ⟨by rw [unhide HR]; exact congrArg (fun x => Ending.returned (Value.int .i64 x)) (unhide HW), nd, rfl⟩
      · have HR := hide (show ((Int.gcd a b : Nat) : Int) = p by rw [← unhide hg, unhide HG, if_neg hn])
        go_wp2
        go_ret
        exact ⟨by rw [unhide HR]; rfl, nd, rfl⟩
    · have hz : (q == 0) = false := by simp [h0]
      have hr := rem_fits (a := p) h0 (unhide hq)
      have HL := hide (tmod_lt p q h0)
      have HS := hide (gcd_step p q)
      obtain ⟨r, hre⟩ : ∃ r, p.tmod q = r := ⟨_, rfl⟩
      have hrw := hr.1
      have HRB := hide hr.2
      rw [hre] at hrw HRB HL HS
      clear hr
      go_wp2
      go_roundw
      case rel => exact ⟨q, r, rfl, rfl, hq, HRB, hide ((unhide HS).trans (unhide hg)), nd, rfl⟩
      case measure => simp [intOf]; exact unhide HL

set_option maxRecDepth 100000 in
theorem l02Prime_any (x y z : Int) (w : World) (hr : rightB x y z = true) :
    Calls Tryd.prog 108 #[.agg #[.int .i64 x, .int .i64 y, .int .i64 z]] w fun e w' => e = .returned (.agg #[.int .i64 (wrap64 (x.tdiv (gI x y z))), .int .i64 (wrap64 (y.tdiv (gI x y z))), .int .i64 (wrap64 (z.tdiv (gI x y z)))]) ∧ Below w.heap.size w w' := by
  obtain ⟨⟨hx, hy, hz⟩, _⟩ := rightB_iff.1 hr
  have hg1 := gcd_le hx hy
  have hpos := gI_pos hr
  go_enter Tryd.func108, Tryd.ntmps108
  go_wp2_with fail
  go_quiet (first | (go_at_call_of 95 (Value.int IntKind.i64 x); refine Calls.quiet_of (l02Gcd_any x y _ hx hy)) | (go_at_call 95; refine Calls.quiet_of (l02Gcd_any _ z _ ?_ hz); omega))
  have hz0 : (gI x y z == 0) = false := by simp; omega
  have hgi : ((Int.gcd ((Int.gcd x y : Nat) : Int) z : Nat) : Int) = gI x y z := rfl
  rw [hgi]
  clear hgi
  generalize hge : gI x y z = g at hpos hz0 ⊢
  have HG := hide hge
  clear hge
  have va : VecAt (((w.alloc (.cells #[.int .i64 x, .int .i64 y, .int .i64 z] 75)).alloc (.cells #[.int .i64 0, .int .i64 0, .int .i64 0] 75)).drewN nq) w.heap.size x y z := ((vecAt_new w x y z _).alloc (by simp) _)
  have vr : VecAt (((w.alloc (.cells #[.int .i64 x, .int .i64 y, .int .i64 z] 75)).alloc (.cells #[.int .i64 0, .int .i64 0, .int .i64 0] 75)).drewN nq) (w.heap.size + 1) 0 0 0 := (by simpa using vecAt_new (w.alloc (.cells #[.int .i64 x, .int .i64 y, .int .i64 z] 75)) 0 0 0 75 : VecAt ((w.alloc (.cells #[.int .i64 x, .int .i64 y, .int .i64 z] 75)).alloc (.cells #[.int .i64 0, .int .i64 0, .int .i64 0] 75)) (w.heap.size + 1) 0 0 0)
  have fr : FreeAt (((w.alloc (.cells #[.int .i64 x, .int .i64 y, .int .i64 z] 75)).alloc (.cells #[.int .i64 0, .int .i64 0, .int .i64 0] 75)).drewN nq) (w.heap.size + 1) := (by simpa using freeAt_new (w.alloc (.cells #[.int .i64 x, .int .i64 y, .int .i64 z] 75)) 0 0 0 75 : FreeAt ((w.alloc (.cells #[.int .i64 x, .int .i64 y, .int .i64 z] 75)).alloc (.cells #[.int .i64 0, .int .i64 0, .int .i64 0] 75)) (w.heap.size + 1))
  have hB : Below w.heap.size w (((w.alloc (.cells #[.int .i64 x, .int .i64 y, .int .i64 z] 75)).alloc (.cells #[.int .i64 0, .int .i64 0, .int .i64 0] 75)).drewN nq) := below_call (below2 _ _ _) (below_drewN _ _)
  generalize ((w.alloc (.cells #[.int .i64 x, .int .i64 y, .int .i64 z] 75)).alloc (.cells #[.int .i64 0, .int .i64 0, .int .i64 0] 75)).drewN nq = w1 at va vr fr hB ⊢
  obtain ⟨ca0, ca1, ca2⟩ := va
  obtain ⟨cr0, cr1, cr2⟩ := vr
  obtain ⟨fr0, fr1, fr2⟩ := fr
  clear hg1 hx hy hz hr
  go_wp2_with fail
  go_region
  go_wp2
  exact bodyPost_ret (v := .agg #[.int .i64 (wrap64 (x.tdiv g)), .int .i64 (wrap64 (y.tdiv g)), .int .i64 (wrap64 (z.tdiv g))]) (by simp [results, Tryd.results108, go_sem, cr0, cr1, cr2]) rfl ⟨by rw [unhide HG], (below_set3 hB (by omega) _ _ _).drew⟩
end Go.Proofs.YtnffnjljjecphaaDoor

namespace Go.Proofs.YtnffnjljjecphaaDoor
open Go.RowKit
set_option linter.unusedVariables false

def TurnAt (w : World) (b : Nat) (p q r s : Int) : Prop := w.cell? ⟨b, 0, none⟩ = some (.int .i64 p) ∧ w.cell? ⟨b, 1, none⟩ = some (.int .i64 q) ∧ w.cell? ⟨b, 2, none⟩ = some (.int .i64 r) ∧ w.cell? ⟨b, 3, none⟩ = some (.int .i64 s)
def FreeT (w : World) (b : Nat) : Prop := w.frozen? ⟨b, 0, none⟩ = false ∧ w.frozen? ⟨b, 1, none⟩ = false ∧ w.frozen? ⟨b, 2, none⟩ = false ∧ w.frozen? ⟨b, 3, none⟩ = false
theorem TurnAt.kept {w w' : World} {b : Nat} {p q r s : Int} (h : TurnAt w b p q r s) (hb : b < w.heap.size) (hB : Below w.heap.size w w') : TurnAt w' b p q r s := by
  obtain ⟨h0, h1, h2, h3⟩ := h
  exact ⟨by rw [hB.cell (p := ⟨b, 0, none⟩) hb]; exact h0, by rw [hB.cell (p := ⟨b, 1, none⟩) hb]; exact h1, by rw [hB.cell (p := ⟨b, 2, none⟩) hb]; exact h2, by rw [hB.cell (p := ⟨b, 3, none⟩) hb]; exact h3⟩
theorem FreeT.kept {w w' : World} {b : Nat} (h : FreeT w b) (hb : b < w.heap.size) (hB : Below w.heap.size w w') : FreeT w' b := by
  obtain ⟨h0, h1, h2, h3⟩ := h
  exact ⟨by rw [hB.frozen (p := ⟨b, 0, none⟩) hb]; exact h0, by rw [hB.frozen (p := ⟨b, 1, none⟩) hb]; exact h1, by rw [hB.frozen (p := ⟨b, 2, none⟩) hb]; exact h2, by rw [hB.frozen (p := ⟨b, 3, none⟩) hb]; exact h3⟩
theorem turnAt_new (w : World) (p q r s : Int) (t : TypeId) : TurnAt (w.alloc (.cells #[.int .i64 p, .int .i64 q, .int .i64 r, .int .i64 s] t)) w.heap.size p q r s := by
  refine ⟨?_, ?_, ?_, ?_⟩ <;> simp
theorem freeT_new (w : World) (p q r s : Int) (t : TypeId) : FreeT (w.alloc (.cells #[.int .i64 p, .int .i64 q, .int .i64 r, .int .i64 s] t)) w.heap.size := by
  refine ⟨?_, ?_, ?_, ?_⟩ <;> simp
theorem TurnAt.lt {w : World} {b : Nat} {p q r s : Int} (h : TurnAt w b p q r s) : b < w.heap.size := World.block_lt_of_cell? w _ h.1
theorem TurnAt.alloc {w : World} {b : Nat} {p q r s : Int} (h : TurnAt w b p q r s) (o : Obj) : TurnAt (w.alloc o) b p q r s := h.kept h.lt (below1 _ _)
theorem below_set4 {w w1 : World} {b : Nat} (h : Below w.heap.size w w1) (hb : w.heap.size ≤ b) (x y z u : Value) : Below w.heap.size w ((((w1.setCell ⟨b, 0, none⟩ x).setCell ⟨b, 1, none⟩ y).setCell ⟨b, 2, none⟩ z).setCell ⟨b, 3, none⟩ u) := (((h.setCell hb _).setCell hb _).setCell hb _).setCell hb _
theorem below_set5 {w w1 : World} {b : Nat} (h : Below w.heap.size w w1) (hb : w.heap.size ≤ b) (x y z u v : Value) : Below w.heap.size w (((((w1.setCell ⟨b, 0, none⟩ x).setCell ⟨b, 1, none⟩ y).setCell ⟨b, 2, none⟩ z).setCell ⟨b, 3, none⟩ u).setCell ⟨b, 4, none⟩ v) := ((((h.setCell hb _).setCell hb _).setCell hb _).setCell hb _).setCell hb _

set_option maxRecDepth 100000 in
theorem tparts_any (p q r s : Int) (w : World) :
    Calls Tryd.prog 111 #[.agg #[.int .i64 p, .int .i64 q, .int .i64 r, .int .i64 s]] w fun e w' => e = .returned (.agg #[.int .i64 p, .int .i64 q, .int .i64 r, .int .i64 s]) ∧ Below w.heap.size w w' := by
  go_enter Tryd.func111, Tryd.ntmps111
  go_wp2
  exact bodyPost_ret (v := .agg #[.int .i64 p, .int .i64 q, .int .i64 r, .int .i64 s]) (by simp [results, Tryd.results111, go_sem]) rfl ⟨rfl, below2 _ _ _⟩

theorem equal_turn (a1 a2 a3 a4 b1 b2 b3 b4 : Int) (w : World) : (Op.equalIn 10000 31 (.agg #[.int .i64 a1, .int .i64 a2, .int .i64 a3, .int .i64 a4]) (.agg #[.int .i64 b1, .int .i64 b2, .int .i64 b3, .int .i64 b4])).run Tryd.prog w = .ok (eqT a1 a2 a3 a4 b1 b2 b3 b4) w := by
  have h := run_equalIn_struct (P := Tryd.prog) w 9999 31 #[.int .i64 a1, .int .i64 a2, .int .i64 a3, .int .i64 a4] #[.int .i64 b1, .int .i64 b2, .int .i64 b3, .int .i64 b4] (by kernel_rfl) (by kernel_rfl)
  refine h.trans ?_
  by_cases h1 : a1 = b1
  · by_cases h2 : a2 = b2
    · by_cases h3 : a3 = b3
      · by_cases h4 : a4 = b4
        · simp [go_sem, eqT, h1, h2, h3, h4]
        · simp [go_sem, eqT, h1, h2, h3, h4]
      · simp [go_sem, eqT, h1, h2, h3]
    · simp [go_sem, eqT, h1, h2]
  · simp [go_sem, eqT, h1]
theorem neq_turn (a1 a2 a3 a4 b1 b2 b3 b4 : Int) (w : World) : (binOp .neq 31 (.agg #[.int .i64 a1, .int .i64 a2, .int .i64 a3, .int .i64 a4]) (.agg #[.int .i64 b1, .int .i64 b2, .int .i64 b3, .int .i64 b4])).run Tryd.prog w = .ok (.bool (!eqT a1 a2 a3 a4 b1 b2 b3 b4)) w := by
  rw [run_neq_struct, equal_turn]; rfl
theorem eql_turn (a1 a2 a3 a4 b1 b2 b3 b4 : Int) (w : World) : (binOp .eql 31 (.agg #[.int .i64 a1, .int .i64 a2, .int .i64 a3, .int .i64 a4]) (.agg #[.int .i64 b1, .int .i64 b2, .int .i64 b3, .int .i64 b4])).run Tryd.prog w = .ok (.bool (eqT a1 a2 a3 a4 b1 b2 b3 b4)) w := by
  rw [run_eql_struct, equal_turn]; rfl

set_option maxRecDepth 100000 in
theorem twithin_any (m p q r s : Int) (w : World) (hm0 : 0 ≤ m) (hm : m ≤ 1000000) :
    Calls Tryd.prog 100 #[.agg #[.int .i64 p, .int .i64 q, .int .i64 r, .int .i64 s], .int .i64 m] w fun e w' => e = .returned (.bool (inT m p q r s)) ∧ Below w.heap.size w w' := by
  have i0 : ∀ w : World, (Instr.index 153 (.agg #[.int .i64 p, .int .i64 q, .int .i64 r, .int .i64 s]) (.int .i64 0)).run Tryd.prog w = .ok (.int .i64 p) w := fun _ => by kernel_rfl
  have i1 : ∀ w : World, (Instr.index 153 (.agg #[.int .i64 p, .int .i64 q, .int .i64 r, .int .i64 s]) (.int .i64 1)).run Tryd.prog w = .ok (.int .i64 q) w := fun _ => by kernel_rfl
  have i2 : ∀ w : World, (Instr.index 153 (.agg #[.int .i64 p, .int .i64 q, .int .i64 r, .int .i64 s]) (.int .i64 2)).run Tryd.prog w = .ok (.int .i64 r) w := fun _ => by kernel_rfl
  have i3 : ∀ w : World, (Instr.index 153 (.agg #[.int .i64 p, .int .i64 q, .int .i64 r, .int .i64 s]) (.int .i64 3)).run Tryd.prog w = .ok (.int .i64 s) w := fun _ => by kernel_rfl
  have hwr : wrap64 (-m) = -m := wrap_id (by omega) (by omega)
  go_enter Tryd.func100, Tryd.ntmps100
  go_wp2_with fail
  refine (tparts_any p q r s _).mono ?_
  rintro e w1 ⟨rfl, hB1⟩
  have hB : Below w.heap.size w w1 := below_call (below1 _ _) hB1
  clear hB1
  go_wp2_with fail
  go_loop [9] (fun i => ∃ k : Nat, k ≤ 4 ∧ i = .int .i64 k ∧ Hid (0 < k → inB m p = true) ∧ Hid (1 < k → inB m q = true) ∧ Hid (2 < k → inB m r = true) ∧ Hid (3 < k → inB m s = true)) (fun i => 4 - (intOf i).toNat)
  case atStart => exact ⟨0, Nat.zero_le _, rfl, hide (by omega), hide (by omega), hide (by omega), hide (by omega)⟩
  case round =>
    obtain ⟨k, hk, rfl, hx, hy, hz, hu⟩ := hrel
    have hk5 : k = 0 ∨ k = 1 ∨ k = 2 ∨ k = 3 ∨ k = 4 := by omega
    rcases hk5 with rfl | rfl | rfl | rfl | rfl
    · by_cases q1 : -m ≤ p
      · by_cases q2 : p ≤ m
        · have HI := hide (inB_iff.2 ⟨q1, q2⟩)
          go_wp2
          go_round
          case rel => exact ⟨1, by omega, rfl, hide (fun _ => unhide HI), hide (by omega), hide (by omega), hide (by omega)⟩
          case measure => simp [intOf]
        · have HO := hide (out1 (m := m) (x := p) (fun h => q2 h.2))
          go_wp2
          go_ret
          exact ⟨by simp [inT, unhide HO], hB⟩
      · have HO := hide (out1 (m := m) (x := p) (fun h => q1 h.1))
        go_wp2
        go_ret
        exact ⟨by simp [inT, unhide HO], hB⟩
    · by_cases q1 : -m ≤ q
      · by_cases q2 : q ≤ m
        · have HI := hide (inB_iff.2 ⟨q1, q2⟩)
          go_wp2
          go_round
          case rel => exact ⟨2, by omega, rfl, hide (fun _ => unhide hx (by omega)), hide (fun _ => unhide HI), hide (by omega), hide (by omega)⟩
          case measure => simp [intOf]
        · have HO := hide (out1 (m := m) (x := q) (fun h => q2 h.2))
          go_wp2
          go_ret
          exact ⟨by simp [inT, unhide HO], hB⟩
      · have HO := hide (out1 (m := m) (x := q) (fun h => q1 h.1))
        go_wp2
        go_ret
        exact ⟨by simp [inT, unhide HO], hB⟩
    · by_cases q1 : -m ≤ r
      · by_cases q2 : r ≤ m
        · have HI := hide (inB_iff.2 ⟨q1, q2⟩)
          go_wp2
          go_round
          case rel => exact ⟨3, by omega, rfl, hide (fun _ => unhide hx (by omega)), hide (fun _ => unhide hy (by omega)), hide (fun _ => unhide HI), hide (by omega)⟩
          case measure => simp [intOf]
        · have HO := hide (out1 (m := m) (x := r) (fun h => q2 h.2))
          go_wp2
          go_ret
          exact ⟨by simp [inT, unhide HO], hB⟩
      · have HO := hide (out1 (m := m) (x := r) (fun h => q1 h.1))
        go_wp2
        go_ret
        exact ⟨by simp [inT, unhide HO], hB⟩
    · by_cases q1 : -m ≤ s
      · by_cases q2 : s ≤ m
        · have HI := hide (inB_iff.2 ⟨q1, q2⟩)
          go_wp2
          go_round
          case rel => exact ⟨4, by omega, rfl, hide (fun _ => unhide hx (by omega)), hide (fun _ => unhide hy (by omega)), hide (fun _ => unhide hz (by omega)), hide (fun _ => unhide HI)⟩
          case measure => simp [intOf]
        · have HO := hide (out1 (m := m) (x := s) (fun h => q2 h.2))
          go_wp2
          go_ret
          exact ⟨by simp [inT, unhide HO], hB⟩
      · have HO := hide (out1 (m := m) (x := s) (fun h => q1 h.1))
        go_wp2
        go_ret
        exact ⟨by simp [inT, unhide HO], hB⟩
    · go_wp2
      go_ret
      exact ⟨by simp [inT, unhide hx (by omega), unhide hy (by omega), unhide hz (by omega), unhide hu (by omega)], hB⟩
end Go.Proofs.YtnffnjljjecphaaDoor
