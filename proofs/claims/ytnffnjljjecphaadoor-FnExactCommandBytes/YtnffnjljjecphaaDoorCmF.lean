/- The law on CommandRight, walked. -/
import Derived.Test.YtnffnjljjecphaaDoorCmE
import Derived.Deep.RegionHeld
import Derived.Deep.DeepCutAuto
namespace Go.Proofs.YtnffnjljjecphaaDoor
open Go.RowKit Go.Sort
set_option linter.unusedVariables false

theorem stepCmZ {w1 wx wn : World} {X : Prop} (hx : Below wx.heap.size wx wn) (h : X ∧ Below w1.heap.size w1 wx) : Below w1.heap.size w1 wn := below_call h.2 hx
theorem stepCmD {w1 wx wn : World} {X : Prop} (hx : Below wx.drew.heap.size wx.drew wn) (h : X ∧ Below w1.heap.size w1 wx) : Below w1.heap.size w1 wn := h.2.drew.trans (hx.mono h.2.size)
def CmAt (W : World) (b : Nat) (v : Value) (kind A B C D wd ht lv fo : Int) (px : ByteArray) : Prop := W.cell? ⟨b, 0, none⟩ = some (.int .i64 kind) ∧ W.cell? ⟨b, 1, none⟩ = some (.int .i64 A) ∧ W.cell? ⟨b, 2, none⟩ = some (.int .i64 B) ∧ W.cell? ⟨b, 3, none⟩ = some (.int .i64 C) ∧ W.cell? ⟨b, 4, none⟩ = some (.int .i64 D) ∧ W.cell? ⟨b, 5, none⟩ = some v ∧ W.cell? ⟨b, 6, none⟩ = some (.int .i64 wd) ∧ W.cell? ⟨b, 7, none⟩ = some (.int .i64 ht) ∧ W.cell? ⟨b, 8, none⟩ = some (.string px) ∧ W.cell? ⟨b, 9, none⟩ = some (.int .i64 lv) ∧ W.cell? ⟨b, 10, none⟩ = some (.int .i64 fo)
theorem cmAt_of {W : World} {b : Nat} {v : Value} {kind A B C D wd ht lv fo : Int} {px : ByteArray} {t : TypeId} (h : Blk W b [.int .i64 kind, .int .i64 A, .int .i64 B, .int .i64 C, .int .i64 D, v, .int .i64 wd, .int .i64 ht, .string px, .int .i64 lv, .int .i64 fo] t) : CmAt W b v kind A B C D wd ht lv fo px :=
  ⟨h.cell 0 _ rfl, h.cell 1 _ rfl, h.cell 2 _ rfl, h.cell 3 _ rfl, h.cell 4 _ rfl, h.cell 5 _ rfl, h.cell 6 _ rfl, h.cell 7 _ rfl, h.cell 8 _ rfl, h.cell 9 _ rfl, h.cell 10 _ rfl⟩
theorem holdCC {w1 wx : World} {P Q : Nat} {u v : Value} {kind A B C D wd ht lv fo : Int} {px : ByteArray} {t t' : TypeId} (ta : Blk w1 P [.int .i64 kind, .int .i64 A, .int .i64 B, .int .i64 C, .int .i64 D, u, .int .i64 wd, .int .i64 ht, .string px, .int .i64 lv, .int .i64 fo] t) (tb : Blk w1 Q [.int .i64 kind, .int .i64 A, .int .i64 B, .int .i64 C, .int .i64 D, v, .int .i64 wd, .int .i64 ht, .string px, .int .i64 lv, .int .i64 fo] t') (h : Below w1.heap.size w1 wx) : ((wx.cell? ⟨P, 0, none⟩ = some (.int .i64 kind) ∧ wx.cell? ⟨P, 1, none⟩ = some (.int .i64 A) ∧ wx.cell? ⟨P, 2, none⟩ = some (.int .i64 B) ∧ wx.cell? ⟨P, 3, none⟩ = some (.int .i64 C) ∧ wx.cell? ⟨P, 4, none⟩ = some (.int .i64 D) ∧ wx.cell? ⟨P, 5, none⟩ = some (u) ∧ wx.cell? ⟨P, 6, none⟩ = some (.int .i64 wd) ∧ wx.cell? ⟨P, 7, none⟩ = some (.int .i64 ht) ∧ wx.cell? ⟨P, 8, none⟩ = some (.string px) ∧ wx.cell? ⟨P, 9, none⟩ = some (.int .i64 lv) ∧ wx.cell? ⟨P, 10, none⟩ = some (.int .i64 fo)) ∧ (wx.cell? ⟨Q, 0, none⟩ = some (.int .i64 kind) ∧ wx.cell? ⟨Q, 1, none⟩ = some (.int .i64 A) ∧ wx.cell? ⟨Q, 2, none⟩ = some (.int .i64 B) ∧ wx.cell? ⟨Q, 3, none⟩ = some (.int .i64 C) ∧ wx.cell? ⟨Q, 4, none⟩ = some (.int .i64 D) ∧ wx.cell? ⟨Q, 5, none⟩ = some (v) ∧ wx.cell? ⟨Q, 6, none⟩ = some (.int .i64 wd) ∧ wx.cell? ⟨Q, 7, none⟩ = some (.int .i64 ht) ∧ wx.cell? ⟨Q, 8, none⟩ = some (.string px) ∧ wx.cell? ⟨Q, 9, none⟩ = some (.int .i64 lv) ∧ wx.cell? ⟨Q, 10, none⟩ = some (.int .i64 fo))) ∧ Below w1.heap.size w1 wx := ⟨⟨cmAt_of (ta.kept h), cmAt_of (tb.kept h)⟩, h⟩

set_option maxHeartbeats 8000000 in
set_option maxRecDepth 100000 in
theorem lawCommandRight (S : List D3) (kind A B C D wd ht lv fo : Int) (px : ByteArray) (a : Option Addr) (c : Nat) (p : Addr) (w : World) (hn : S.length ≤ 1048576) (hz : szC S.length px = szI ((1048576 : Int) - (S.length : Int)) px) (hs : px.size ≤ maxLen) (hS : Dirs w a S S.length) (hE : ErrCmd p w) :
    Calls Tryd.prog 3 #[.agg #[.int .i64 kind, .int .i64 A, .int .i64 B, .int .i64 C, .int .i64 D, .slice a S.length c, .int .i64 wd, .int .i64 ht, .string px, .int .i64 lv, .int .i64 fo]] w fun e w' => e = .returned (.bool true) ∧ Below w.heap.size w w' := by
  have HS := hide hS
  have HE := hide hE
  clear hS hE hz
  have cZ := hide (fun W => szCommand_any kind A B C D wd ht lv fo px a S.length c W (by omega) hs)
  have cT := hide (fun W hW => toCommand_any S kind A B C D wd ht lv fo px a c W hn hW)
  obtain ⟨y, cS, cR⟩ : ∃ y : Bool, Hid (∀ (W : World) (b : Nat), Dirs W (some ⟨b, 0, none⟩) S S.length → Calls Tryd.prog 8 #[.agg #[.int .i64 kind, .int .i64 A, .int .i64 B, .int .i64 C, .int .i64 D, .slice (some ⟨b, 0, none⟩) S.length S.length, .int .i64 wd, .int .i64 ht, .string px, .int .i64 lv, .int .i64 fo]] W fun e w' => e = .returned (.bool y) ∧ Below W.heap.size W w')
    ∧ Hid (∀ (W : World) (b : Nat), Dirs W (some ⟨b, 0, none⟩) S S.length → ErrCmd p W → Calls Tryd.prog 10 #[.agg #[.int .i64 kind, .int .i64 A, .int .i64 B, .int .i64 C, .int .i64 D, .slice (some ⟨b, 0, none⟩) S.length S.length, .int .i64 wd, .int .i64 ht, .string px, .int .i64 lv, .int .i64 fo]] W fun e w' => e = .returned (.bool y) ∧ Below W.heap.size W w') :=
    ⟨cmdB ⟨kind, A, B, C, D, S, wd, ht, px, lv, fo⟩, hide (fun W b hW => specCommandRight_any S kind A B C D wd ht lv fo px _ _ W hn hW), hide (fun W b hW hE => implCommandRight_any S kind A B C D wd ht lv fo px _ _ p W hn (Nat.le_refl _) (by omega) hW hE)⟩
  generalize szC S.length px = z at *
  generalize S.length = n at *
  have B0 := hide (below1 w (.cells #[.int .i64 kind, .int .i64 A, .int .i64 B, .int .i64 C, .int .i64 D, .slice a n c, .int .i64 wd, .int .i64 ht, .string px, .int .i64 lv, .int .i64 fo] 28))
  have T0 := hide (blk_new w [.int .i64 kind, .int .i64 A, .int .i64 B, .int .i64 C, .int .i64 D, .slice a n c, .int .i64 wd, .int .i64 ht, .string px, .int .i64 lv, .int .i64 fo] 28)
  go_enter Tryd.func3, Tryd.ntmps3
  go_wp2_with fail
  refine (unhide cZ _).mono ?_
  rintro e w1 ⟨rfl, hx⟩
  have B1 := hide (below_call (unhide B0) hx)
  have T1 := hide ((unhide T0).kept hx)
  clear hx B0 T0
  by_cases hz : z < 0
  · go_wp2_with fail
    go_ret
    exact ⟨rfl, unhide B1⟩
  have q0 := (unhide T1).cell 0 _ rfl
  have q1 := (unhide T1).cell 1 _ rfl
  have q2 := (unhide T1).cell 2 _ rfl
  have q3 := (unhide T1).cell 3 _ rfl
  have q4 := (unhide T1).cell 4 _ rfl
  have q5 := (unhide T1).cell 5 _ rfl
  have q6 := (unhide T1).cell 6 _ rfl
  have q7 := (unhide T1).cell 7 _ rfl
  have q8 := (unhide T1).cell 8 _ rfl
  have q9 := (unhide T1).cell 9 _ rfl
  have q10 := (unhide T1).cell 10 _ rfl
  go_wp2_with fail
  clear q0 q1 q2 q3 q4 q5 q6 q7 q8 q9 q10
  refine (unhide cT _ ((unhide HS).kept (unhide B1))).mono ?_
  rintro e w2 ⟨b2, rfl, ho, hb2, hx⟩
  have O2 := hide ho
  have B2 := hide (below_call (unhide B1) hx)
  have T2 := hide ((unhide T1).kept hx)
  clear hx ho hb2 B1 T1
  go_wp2_with fail
  refine (unhide cS _ b2 (unhide O2).dirs).mono ?_
  rintro e w3 ⟨rfl, hx⟩
  have B3 := hide (below_call (unhide B2) hx)
  have T3 := hide ((unhide T2).kept hx)
  clear hx B2 T2 O2
  have q0 := (unhide T3).cell 0 _ rfl
  have q1 := (unhide T3).cell 1 _ rfl
  have q2 := (unhide T3).cell 2 _ rfl
  have q3 := (unhide T3).cell 3 _ rfl
  have q4 := (unhide T3).cell 4 _ rfl
  have q5 := (unhide T3).cell 5 _ rfl
  have q6 := (unhide T3).cell 6 _ rfl
  have q7 := (unhide T3).cell 7 _ rfl
  have q8 := (unhide T3).cell 8 _ rfl
  have q9 := (unhide T3).cell 9 _ rfl
  have q10 := (unhide T3).cell 10 _ rfl
  go_wp2_with fail
  clear q0 q1 q2 q3 q4 q5 q6 q7 q8 q9 q10
  refine (unhide cT _ ((unhide HS).kept (unhide B3))).mono ?_
  rintro e w4 ⟨b4, rfl, ho, hb4, hx⟩
  have Z4 := below1 w4 (.cells #[.int .i64 kind, .int .i64 A, .int .i64 B, .int .i64 C, .int .i64 D, .slice (some ⟨b4, 0, none⟩) n n, .int .i64 wd, .int .i64 ht, .string px, .int .i64 lv, .int .i64 fo] 35)
  have O4 := hide (ho.kept Z4)
  have B4 := hide (below_call (below_call (unhide B3) hx) Z4)
  have T4 := hide (((unhide T3).kept hx).kept Z4)
  have X4 := hide (blk_new w4 [.int .i64 kind, .int .i64 A, .int .i64 B, .int .i64 C, .int .i64 D, .slice (some ⟨b4, 0, none⟩) n n, .int .i64 wd, .int .i64 ht, .string px, .int .i64 lv, .int .i64 fo] 35)
  clear hx ho hb4 B3 T3 Z4
  have q0 := (unhide X4).cell 0 _ rfl
  have q1 := (unhide X4).cell 1 _ rfl
  have q2 := (unhide X4).cell 2 _ rfl
  have q3 := (unhide X4).cell 3 _ rfl
  have q4 := (unhide X4).cell 4 _ rfl
  have q5 := (unhide X4).cell 5 _ rfl
  have q6 := (unhide X4).cell 6 _ rfl
  have q7 := (unhide X4).cell 7 _ rfl
  have q8 := (unhide X4).cell 8 _ rfl
  have q9 := (unhide X4).cell 9 _ rfl
  have q10 := (unhide X4).cell 10 _ rfl
  go_wp2_with fail
  clear q0 q1 q2 q3 q4 q5 q6 q7 q8 q9 q10
  generalize w4.alloc (.cells #[.int .i64 kind, .int .i64 A, .int .i64 B, .int .i64 C, .int .i64 D, .slice (some ⟨b4, 0, none⟩) n n, .int .i64 wd, .int .i64 ht, .string px, .int .i64 lv, .int .i64 fo] 35) = W4 at *
  generalize w4.heap.size = xb at *
  clear w4
  refine (unhide cR _ b4 (unhide O4).dirs ((unhide HE).kept (unhide B4))).mono ?_
  rintro e w5 ⟨rfl, hx⟩
  have O5 := hide ((unhide O4).kept hx)
  have B5 := hide (below_call (unhide B4) hx)
  have T5 := hide ((unhide T4).kept hx)
  have X5 := hide ((unhide X4).kept hx)
  clear hx O4 B4 T4 X4
  go_wp2_with fail
  go_region_held (fun w' => ((w'.cell? ⟨w.heap.size, 0, none⟩ = some (.int .i64 kind) ∧ w'.cell? ⟨w.heap.size, 1, none⟩ = some (.int .i64 A) ∧ w'.cell? ⟨w.heap.size, 2, none⟩ = some (.int .i64 B) ∧ w'.cell? ⟨w.heap.size, 3, none⟩ = some (.int .i64 C) ∧ w'.cell? ⟨w.heap.size, 4, none⟩ = some (.int .i64 D) ∧ w'.cell? ⟨w.heap.size, 5, none⟩ = some (.slice a n c) ∧ w'.cell? ⟨w.heap.size, 6, none⟩ = some (.int .i64 wd) ∧ w'.cell? ⟨w.heap.size, 7, none⟩ = some (.int .i64 ht) ∧ w'.cell? ⟨w.heap.size, 8, none⟩ = some (.string px) ∧ w'.cell? ⟨w.heap.size, 9, none⟩ = some (.int .i64 lv) ∧ w'.cell? ⟨w.heap.size, 10, none⟩ = some (.int .i64 fo)) ∧ (w'.cell? ⟨xb, 0, none⟩ = some (.int .i64 kind) ∧ w'.cell? ⟨xb, 1, none⟩ = some (.int .i64 A) ∧ w'.cell? ⟨xb, 2, none⟩ = some (.int .i64 B) ∧ w'.cell? ⟨xb, 3, none⟩ = some (.int .i64 C) ∧ w'.cell? ⟨xb, 4, none⟩ = some (.int .i64 D) ∧ w'.cell? ⟨xb, 5, none⟩ = some (.slice (some ⟨b4, 0, none⟩) n n) ∧ w'.cell? ⟨xb, 6, none⟩ = some (.int .i64 wd) ∧ w'.cell? ⟨xb, 7, none⟩ = some (.int .i64 ht) ∧ w'.cell? ⟨xb, 8, none⟩ = some (.string px) ∧ w'.cell? ⟨xb, 9, none⟩ = some (.int .i64 lv) ∧ w'.cell? ⟨xb, 10, none⟩ = some (.int .i64 fo))) ∧ Below w5.heap.size w5 w') (first | (with_reducible exact holdCC (unhide T5) (unhide X5) (Below.refl _ _).drew) | (with_reducible exact holdCC (unhide T5) (unhide X5) (by assumption))) (first | (go_at_call 9; (with_reducible refine (unhide cT _ ((unhide HS).kept (below_call (unhide B5) (And.right (by assumption))))).mono ?_); rintro e wn ⟨b6, rfl, ho, hb6, hx⟩; have OT := hide ho; clear ho hb6; have hw : Below w5.heap.size w5 wn := (by first | (with_reducible exact stepCmZ hx (by assumption)) | (with_reducible exact stepCmD hx (by assumption)) | (with_reducible exact (Below.refl _ _).drew.trans (hx.mono (Nat.le_refl _))))) | (go_at_call 11; (with_reducible refine (eqCommand_same S n kind A B C D wd ht lv fo px _ _ _ _ _ hn ((unhide O5).dirs.kept (And.right (by assumption))) (unhide OT).dirs).mono ?_); rintro e wn ⟨rfl, hx⟩; have hw : Below w5.heap.size w5 wn := (by first | (with_reducible exact stepCmZ hx (by assumption)) | (with_reducible exact stepCmD hx (by assumption)))))
  go_wp2_with fail
  go_ret
  exact ⟨rfl, below_call (unhide B5) hw⟩
set_option maxRecDepth 100000 in
theorem lawCommandRight_big (kind A B C D wd ht lv fo : Int) (px : ByteArray) (a : Option Addr) (n c : Nat) (w : World) (hn : 1048576 < n) (hm : n ≤ 9223372036854775807) (hs : px.size ≤ maxLen) :
    Calls Tryd.prog 3 #[.agg #[.int .i64 kind, .int .i64 A, .int .i64 B, .int .i64 C, .int .i64 D, .slice a n c, .int .i64 wd, .int .i64 ht, .string px, .int .i64 lv, .int .i64 fo]] w fun e w' => e = .returned (.bool true) ∧ Below w.heap.size w w' := by
  have B0 := hide (below1 w (.cells #[.int .i64 kind, .int .i64 A, .int .i64 B, .int .i64 C, .int .i64 D, .slice a n c, .int .i64 wd, .int .i64 ht, .string px, .int .i64 lv, .int .i64 fo] 28))
  have hz : szC n px = -1 := by unfold szC; rw [if_pos (by omega)]
  have cZ := hide (fun W => szCommand_any kind A B C D wd ht lv fo px a n c W hm hs)
  rw [hz] at cZ
  clear hz
  go_enter Tryd.func3, Tryd.ntmps3
  go_wp2_with fail
  refine (unhide cZ _).mono ?_
  rintro e w1 ⟨rfl, hx⟩
  have B1 := hide (below_call (unhide B0) hx)
  clear hx
  go_wp2_with fail
  go_ret
  exact ⟨rfl, unhide B1⟩
theorem lawCommandRight_all (S : List D3) (a : Option Addr) (len cap : Nat) (kind A B C D wd ht lv fo : Int) (px : ByteArray) (hl : S.length = len) (hm : len ≤ maxLen) (hs : px.size ≤ maxLen) (w : World) (hS : Dirs w a S len) (hE : ∃ p, ErrCmd p w) :
    Calls Tryd.prog 3 #[.agg #[.int .i64 kind, .int .i64 A, .int .i64 B, .int .i64 C, .int .i64 D, .slice a len cap, .int .i64 wd, .int .i64 ht, .string px, .int .i64 lv, .int .i64 fo]] w fun e w' => e = .returned (.bool true) ∧ Below w.heap.size w w' := by
  obtain ⟨p, hp⟩ := hE
  subst hl
  have hm' : maxLen ≤ 9223372036854775807 := by decide +kernel
  by_cases h : S.length ≤ 1048576
  · exact lawCommandRight S kind A B C D wd ht lv fo px a cap p w h (by unfold szC; rw [if_neg (by omega)]) hs hS hp
  · exact lawCommandRight_big kind A B C D wd ht lv fo px a S.length cap w (by omega) (by omega) hs
end Go.Proofs.YtnffnjljjecphaaDoor
