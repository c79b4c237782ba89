/- The law on turns, walked: what is drawn. -/
import Derived.Test.YtijpnnooenpjoaaDoorDrawT3
import Derived.Test.YtijpnnooenpjoaaDoorDrawT4
import Derived.Test.YtijpnnooenpjoaaDoorDrawT6
import Derived.Test.YtijpnnooenpjoaaDoorTurnQ
import Derived.Test.YtijpnnooenpjoaaDoorFnTurnM
import Derived.Test.YtijpnnooenpjoaaDoorTurnMath3
import Derived.Test.YtijpnnooenpjoaaDoorTurnEq2
import Derived.Test.YtijpnnooenpjoaaDoorLwT
import Derived.Test.YtijpnnooenpjoaaDoorVecG
import Derived.Test.YtijpnnooenpjoaaDoorVecH
import Derived.Test.YtijpnnooenpjoaaDoorVecJ
import Derived.Lib.QuietBelow
import Derived.BigQuiet
import Derived.Deep.DeepCutAuto
namespace Go.Proofs.YtijpnnooenpjoaaDoor
open Go.RowKit Go.Sort
set_option linter.unusedVariables false

theorem vlt {w : World} {b : Nat} {x y z : Int} (h : VecAt w b x y z) : b < w.heap.size := World.block_lt_of_cell? w _ h.1
theorem VecAt.more {w : World} {b : Nat} {x y z : Int} (h : VecAt w b x y z) (o : Obj) : VecAt (w.alloc o) b x y z := h.alloc (vlt h) o
theorem belowMoreT {w w1 : World} (h : Below w.heap.size w w1) (o : Obj) : Below w.heap.size w (w1.alloc o) := h.alloc h.size o

set_option maxHeartbeats 40000000 in
set_option maxRecDepth 100000 in
theorem fnTurn_any (a0 a1' : Option Addr) (len0 cap0 len1 cap1 : Nat) (w : World) (h0 : len0 ≤ 1048576) (h1 : len1 ≤ 1048576) (r0 : Row w a0 len0 w.heap.size) (r1 : Row w a1' len1 w.heap.size) (hT : Tab w) :
    Calls Tryd.prog 4 #[.slice a0 len0 cap0, .slice a1' len1 cap1] w fun e w' => e = .returned (.bool true) ∧ Below w.heap.size w w' := by
  have R0 := hide r0
  have R1 := hide r1
  have HT := hide hT
  clear r0 r1 hT
  have hb0 : ¬ (1048576 : Int) < (len0 : Int) := by omega
  have hb1 : ¬ (1048576 : Int) < (len1 : Int) := by omega
  have HB := hide (Below.refl w.heap.size w)
  go_enter Tryd.func4, Tryd.ntmps4
  go_wp2_with fail
  refine (drawOf_any a0 len0 cap0 _ h0 ((unhide R0).belowT (unhide HB))).mono ?_
  rintro e w1 ⟨a1, a2, a3, a4, rfl, hx⟩
  replace HT := hide ((unhide HT).kept hx)
  replace HB := hide (below_call (unhide HB) hx)
  clear hx
  go_wp2_with fail
  refine (drawApply_any a1' len1 cap1 _ h1 ((unhide R1).belowT (unhide HB))).mono ?_
  rintro e w2 ⟨t1, t2, t3, t4, v1, v2, v3, rfl, hx⟩
  replace HT := hide ((unhide HT).kept hx)
  replace HB := hide (below_call (unhide HB) hx)
  clear hx
  have Ht := hide ((by simpa using turnAt_new w2 t1 t2 t3 t4 37 : TurnAt (w2.alloc (.cells #[.int .i64 t1, .int .i64 t2, .int .i64 t3, .int .i64 t4] 37)) (w2.heap.size) t1 t2 t3 t4).alloc (.cells #[.int .i64 v1, .int .i64 v2, .int .i64 v3] 39))
  have Hv := hide (by simpa using vecAt_new (w2.alloc (.cells #[.int .i64 t1, .int .i64 t2, .int .i64 t3, .int .i64 t4] 37)) v1 v2 v3 39 : VecAt ((w2.alloc (.cells #[.int .i64 t1, .int .i64 t2, .int .i64 t3, .int .i64 t4] 37)).alloc (.cells #[.int .i64 v1, .int .i64 v2, .int .i64 v3] 39)) (w2.heap.size + 1) v1 v2 v3)
  replace HB := hide (belowMoreT (belowMoreT (unhide HB) (.cells #[.int .i64 t1, .int .i64 t2, .int .i64 t3, .int .i64 t4] 37)) (.cells #[.int .i64 v1, .int .i64 v2, .int .i64 v3] 39))
  replace HT := hide (((unhide HT).kept (below1 _ (.cells #[.int .i64 t1, .int .i64 t2, .int .i64 t3, .int .i64 t4] 37))).kept (below1 _ (.cells #[.int .i64 v1, .int .i64 v2, .int .i64 v3] 39)))
  go_wp2_with fail
  generalize ((w2.alloc (.cells #[.int .i64 t1, .int .i64 t2, .int .i64 t3, .int .i64 t4] 37)).alloc (.cells #[.int .i64 v1, .int .i64 v2, .int .i64 v3] 39)) = w3 at HB HT Ht Hv ⊢
  generalize w2.heap.size = bl1 at Ht Hv ⊢
  refine (drawCompose_any a0 len0 cap0 _ h0 ((unhide R0).belowT (unhide HB))).mono ?_
  rintro e w4 ⟨s1, s2, s3, s4, u1, u2, u3, u4, rfl, hx⟩
  replace Ht := hide ((unhide Ht).kept (unhide Ht).lt hx)
  replace Hv := hide ((unhide Hv).kept (vlt (unhide Hv)) hx)
  replace HT := hide ((unhide HT).kept hx)
  replace HB := hide (below_call (unhide HB) hx)
  clear hx
  replace Ht := hide (((unhide Ht).alloc (.cells #[.int .i64 s1, .int .i64 s2, .int .i64 s3, .int .i64 s4] 37)).alloc (.cells #[.int .i64 u1, .int .i64 u2, .int .i64 u3, .int .i64 u4] 37))
  replace Hv := hide (VecAt.more (VecAt.more (unhide Hv) (.cells #[.int .i64 s1, .int .i64 s2, .int .i64 s3, .int .i64 s4] 37)) (.cells #[.int .i64 u1, .int .i64 u2, .int .i64 u3, .int .i64 u4] 37))
  have Hs := hide ((by simpa using turnAt_new w4 s1 s2 s3 s4 37 : TurnAt (w4.alloc (.cells #[.int .i64 s1, .int .i64 s2, .int .i64 s3, .int .i64 s4] 37)) (w4.heap.size) s1 s2 s3 s4).alloc (.cells #[.int .i64 u1, .int .i64 u2, .int .i64 u3, .int .i64 u4] 37))
  have Hu := hide (by simpa using turnAt_new (w4.alloc (.cells #[.int .i64 s1, .int .i64 s2, .int .i64 s3, .int .i64 s4] 37)) u1 u2 u3 u4 37 : TurnAt ((w4.alloc (.cells #[.int .i64 s1, .int .i64 s2, .int .i64 s3, .int .i64 s4] 37)).alloc (.cells #[.int .i64 u1, .int .i64 u2, .int .i64 u3, .int .i64 u4] 37)) (w4.heap.size + 1) u1 u2 u3 u4)
  replace HB := hide (belowMoreT (belowMoreT (unhide HB) (.cells #[.int .i64 s1, .int .i64 s2, .int .i64 s3, .int .i64 s4] 37)) (.cells #[.int .i64 u1, .int .i64 u2, .int .i64 u3, .int .i64 u4] 37))
  replace HT := hide (((unhide HT).kept (below1 _ (.cells #[.int .i64 s1, .int .i64 s2, .int .i64 s3, .int .i64 s4] 37))).kept (below1 _ (.cells #[.int .i64 u1, .int .i64 u2, .int .i64 u3, .int .i64 u4] 37)))
  have vs := unhide Hs
  obtain ⟨cs0, cs1, cs2, cs3⟩ := vs
  have vu := unhide Hu
  obtain ⟨cu0, cu1, cu2, cu3⟩ := vu
  go_wp2_with fail
  clear cs0 cs1 cs2 cs3
  clear cu0 cu1 cu2 cu3
  generalize ((w4.alloc (.cells #[.int .i64 s1, .int .i64 s2, .int .i64 s3, .int .i64 s4] 37)).alloc (.cells #[.int .i64 u1, .int .i64 u2, .int .i64 u3, .int .i64 u4] 37)) = w5 at HB HT Ht Hv Hs Hu ⊢
  generalize w4.heap.size = bl2 at Hs Hu ⊢
  obtain ⟨x1, x2, x3, x4, x5, cX, cXs, fX⟩ : ∃ x1 x2 x3 x4 x5 : Int, Hid (∀ W : World, Calls Tryd.prog 16 #[.agg #[.int .i64 s1, .int .i64 s2, .int .i64 s3, .int .i64 s4], .agg #[.int .i64 u1, .int .i64 u2, .int .i64 u3, .int .i64 u4]] W fun e w' => e = .returned (.agg #[.int .i64 x1, .int .i64 x2, .int .i64 x3, .int .i64 x4, .int .i64 x5]) ∧ Below W.heap.size W w') ∧ Hid (∀ W : World, Calls Tryd.prog 26 #[.agg #[.int .i64 s1, .int .i64 s2, .int .i64 s3, .int .i64 s4], .agg #[.int .i64 u1, .int .i64 u2, .int .i64 u3, .int .i64 u4]] W fun e w' => e = .returned (.agg #[.int .i64 x1, .int .i64 x2, .int .i64 x3, .int .i64 x4, .int .i64 x5]) ∧ Below W.heap.size W w') ∧ Hid (x1 = coP s1 s2 s3 s4 u1 u2 u3 u4 (coA s1 s2 s3 s4 u1 u2 u3 u4) ∧ x2 = coP s1 s2 s3 s4 u1 u2 u3 u4 (coB s1 s2 s3 s4 u1 u2 u3 u4) ∧ x3 = coP s1 s2 s3 s4 u1 u2 u3 u4 (coC s1 s2 s3 s4 u1 u2 u3 u4) ∧ x4 = coP s1 s2 s3 s4 u1 u2 u3 u4 (coD s1 s2 s3 s4 u1 u2 u3 u4) ∧ x5 = coK s1 s2 s3 s4 u1 u2 u3 u4) := ⟨_, _, _, _, _, hide (fun W => compose_any s1 s2 s3 s4 u1 u2 u3 u4 W), hide (fun W => specCompose_any s1 s2 s3 s4 u1 u2 u3 u4 W), hide ⟨rfl, rfl, rfl, rfl, rfl⟩⟩
  refine (unhide cX _).mono ?_
  rintro e w6 ⟨rfl, hx⟩
  replace Ht := hide ((unhide Ht).kept (unhide Ht).lt hx)
  replace Hv := hide ((unhide Hv).kept (vlt (unhide Hv)) hx)
  replace Hs := hide ((unhide Hs).kept (unhide Hs).lt hx)
  replace Hu := hide ((unhide Hu).kept (unhide Hu).lt hx)
  replace HT := hide ((unhide HT).kept hx)
  replace HB := hide (below_call (unhide HB) hx)
  clear hx
  replace Ht := hide ((unhide Ht).alloc (.cells #[.int .i64 x1, .int .i64 x2, .int .i64 x3, .int .i64 x4, .int .i64 x5] 45))
  replace Hv := hide (VecAt.more (unhide Hv) (.cells #[.int .i64 x1, .int .i64 x2, .int .i64 x3, .int .i64 x4, .int .i64 x5] 45))
  replace Hs := hide ((unhide Hs).alloc (.cells #[.int .i64 x1, .int .i64 x2, .int .i64 x3, .int .i64 x4, .int .i64 x5] 45))
  replace Hu := hide ((unhide Hu).alloc (.cells #[.int .i64 x1, .int .i64 x2, .int .i64 x3, .int .i64 x4, .int .i64 x5] 45))
  have Hx := hide (by simpa using outAt_new w6 x1 x2 x3 x4 x5 45 : OutAt (w6.alloc (.cells #[.int .i64 x1, .int .i64 x2, .int .i64 x3, .int .i64 x4, .int .i64 x5] 45)) (w6.heap.size) x1 x2 x3 x4 x5)
  replace HB := hide (belowMoreT (unhide HB) (.cells #[.int .i64 x1, .int .i64 x2, .int .i64 x3, .int .i64 x4, .int .i64 x5] 45))
  replace HT := hide ((unhide HT).kept (below1 _ (.cells #[.int .i64 x1, .int .i64 x2, .int .i64 x3, .int .i64 x4, .int .i64 x5] 45)))
  go_wp2_with fail
  generalize (w6.alloc (.cells #[.int .i64 x1, .int .i64 x2, .int .i64 x3, .int .i64 x4, .int .i64 x5] 45)) = w7 at HB HT Ht Hv Hs Hu Hx ⊢
  generalize w6.heap.size = bl3 at Hx ⊢
  refine (drawBack_any a1' len1 cap1 _ h1 ((unhide R1).belowT (unhide HB))).mono ?_
  rintro e w8 ⟨k1, k2, k3, k4, rfl, hx⟩
  replace Ht := hide ((unhide Ht).kept (unhide Ht).lt hx)
  replace Hv := hide ((unhide Hv).kept (vlt (unhide Hv)) hx)
  replace Hs := hide ((unhide Hs).kept (unhide Hs).lt hx)
  replace Hu := hide ((unhide Hu).kept (unhide Hu).lt hx)
  replace Hx := hide ((unhide Hx).kept hx)
  replace HT := hide ((unhide HT).kept hx)
  replace HB := hide (below_call (unhide HB) hx)
  clear hx
  replace Ht := hide ((unhide Ht).alloc (.cells #[.int .i64 k1, .int .i64 k2, .int .i64 k3, .int .i64 k4] 37))
  replace Hv := hide (VecAt.more (unhide Hv) (.cells #[.int .i64 k1, .int .i64 k2, .int .i64 k3, .int .i64 k4] 37))
  replace Hs := hide ((unhide Hs).alloc (.cells #[.int .i64 k1, .int .i64 k2, .int .i64 k3, .int .i64 k4] 37))
  replace Hu := hide ((unhide Hu).alloc (.cells #[.int .i64 k1, .int .i64 k2, .int .i64 k3, .int .i64 k4] 37))
  replace Hx := hide ((unhide Hx).alloc (.cells #[.int .i64 k1, .int .i64 k2, .int .i64 k3, .int .i64 k4] 37))
  have Hk := hide (by simpa using turnAt_new w8 k1 k2 k3 k4 37 : TurnAt (w8.alloc (.cells #[.int .i64 k1, .int .i64 k2, .int .i64 k3, .int .i64 k4] 37)) (w8.heap.size) k1 k2 k3 k4)
  replace HB := hide (belowMoreT (unhide HB) (.cells #[.int .i64 k1, .int .i64 k2, .int .i64 k3, .int .i64 k4] 37))
  replace HT := hide ((unhide HT).kept (below1 _ (.cells #[.int .i64 k1, .int .i64 k2, .int .i64 k3, .int .i64 k4] 37)))
  go_wp2_with fail
  generalize (w8.alloc (.cells #[.int .i64 k1, .int .i64 k2, .int .i64 k3, .int .i64 k4] 37)) = w9 at HB HT Ht Hv Hs Hu Hx Hk ⊢
  generalize w8.heap.size = bl4 at Hk ⊢
  refine (drawText_any a0 len0 cap0 _ h0 ((unhide R0).belowT (unhide HB))).mono ?_
  rintro e w10 ⟨m1, m2, m3, m4, rfl, hx⟩
  replace Ht := hide ((unhide Ht).kept (unhide Ht).lt hx)
  replace Hv := hide ((unhide Hv).kept (vlt (unhide Hv)) hx)
  replace Hs := hide ((unhide Hs).kept (unhide Hs).lt hx)
  replace Hu := hide ((unhide Hu).kept (unhide Hu).lt hx)
  replace Hx := hide ((unhide Hx).kept hx)
  replace Hk := hide ((unhide Hk).kept (unhide Hk).lt hx)
  replace HT := hide ((unhide HT).kept hx)
  replace HB := hide (below_call (unhide HB) hx)
  clear hx
  replace Ht := hide ((unhide Ht).alloc (.cells #[.int .i64 m1, .int .i64 m2, .int .i64 m3, .int .i64 m4] 37))
  replace Hv := hide (VecAt.more (unhide Hv) (.cells #[.int .i64 m1, .int .i64 m2, .int .i64 m3, .int .i64 m4] 37))
  replace Hs := hide ((unhide Hs).alloc (.cells #[.int .i64 m1, .int .i64 m2, .int .i64 m3, .int .i64 m4] 37))
  replace Hu := hide ((unhide Hu).alloc (.cells #[.int .i64 m1, .int .i64 m2, .int .i64 m3, .int .i64 m4] 37))
  replace Hx := hide ((unhide Hx).alloc (.cells #[.int .i64 m1, .int .i64 m2, .int .i64 m3, .int .i64 m4] 37))
  replace Hk := hide ((unhide Hk).alloc (.cells #[.int .i64 m1, .int .i64 m2, .int .i64 m3, .int .i64 m4] 37))
  have Hm := hide (by simpa using turnAt_new w10 m1 m2 m3 m4 37 : TurnAt (w10.alloc (.cells #[.int .i64 m1, .int .i64 m2, .int .i64 m3, .int .i64 m4] 37)) (w10.heap.size) m1 m2 m3 m4)
  replace HB := hide (belowMoreT (unhide HB) (.cells #[.int .i64 m1, .int .i64 m2, .int .i64 m3, .int .i64 m4] 37))
  replace HT := hide ((unhide HT).kept (below1 _ (.cells #[.int .i64 m1, .int .i64 m2, .int .i64 m3, .int .i64 m4] 37)))
  have vm := unhide Hm
  obtain ⟨cm0, cm1, cm2, cm3⟩ := vm
  go_wp2_with fail
  clear cm0 cm1 cm2 cm3
  generalize (w10.alloc (.cells #[.int .i64 m1, .int .i64 m2, .int .i64 m3, .int .i64 m4] 37)) = w11 at HB HT Ht Hv Hs Hu Hx Hk Hm ⊢
  generalize w10.heap.size = bl5 at Hm ⊢
  obtain ⟨tx, cT, cTs, fT⟩ : ∃ tx : ByteArray, Hid (∀ W : World, Tab W → Calls Tryd.prog 19 #[.agg #[.int .i64 m1, .int .i64 m2, .int .i64 m3, .int .i64 m4]] W fun e w' => e = .returned (.string tx) ∧ Below W.heap.size W w') ∧ Hid (∀ W : World, Calls Tryd.prog 29 #[.agg #[.int .i64 m1, .int .i64 m2, .int .i64 m3, .int .i64 m4]] W fun e w' => e = .returned (.string tx) ∧ Below W.heap.size W w') ∧ Hid (tx = textB m1 m2 m3 m4) := ⟨_, hide (fun W h => turnText_any m1 m2 m3 m4 W h), hide (fun W => specText_any m1 m2 m3 m4 W), hide rfl⟩
  refine (unhide cT _ (unhide HT)).mono ?_
  rintro e w12 ⟨rfl, hx⟩
  replace Ht := hide ((unhide Ht).kept (unhide Ht).lt hx)
  replace Hv := hide ((unhide Hv).kept (vlt (unhide Hv)) hx)
  replace Hs := hide ((unhide Hs).kept (unhide Hs).lt hx)
  replace Hu := hide ((unhide Hu).kept (unhide Hu).lt hx)
  replace Hx := hide ((unhide Hx).kept hx)
  replace Hk := hide ((unhide Hk).kept (unhide Hk).lt hx)
  replace Hm := hide ((unhide Hm).kept (unhide Hm).lt hx)
  replace HT := hide ((unhide HT).kept hx)
  replace HB := hide (below_call (unhide HB) hx)
  clear hx
  go_wp2_with fail
  refine (drawRead_any a1' len1 cap1 _ h1 ((unhide R1).belowT (unhide HB))).mono ?_
  rintro e w13 ⟨rr, rfl, hrr, hx⟩
  replace Ht := hide ((unhide Ht).kept (unhide Ht).lt hx)
  replace Hv := hide ((unhide Hv).kept (vlt (unhide Hv)) hx)
  replace Hs := hide ((unhide Hs).kept (unhide Hs).lt hx)
  replace Hu := hide ((unhide Hu).kept (unhide Hu).lt hx)
  replace Hx := hide ((unhide Hx).kept hx)
  replace Hk := hide ((unhide Hk).kept (unhide Hk).lt hx)
  replace Hm := hide ((unhide Hm).kept (unhide Hm).lt hx)
  replace HT := hide ((unhide HT).kept hx)
  replace HB := hide (below_call (unhide HB) hx)
  clear hx
  go_wp2_with fail
  have hrr' : rr.size ≤ 9223372036854775807 := by omega
  obtain ⟨y1, y2, y3, y4, y5, cY, cYs, fY⟩ : ∃ y1 y2 y3 y4 y5 : Int, Hid (∀ W : World, Tab W → Calls Tryd.prog 21 #[.string rr] W fun e w' => e = .returned (.agg #[.int .i64 y1, .int .i64 y2, .int .i64 y3, .int .i64 y4, .int .i64 y5]) ∧ Below W.heap.size W w') ∧ Hid (∀ W : World, Calls Tryd.prog 30 #[.string rr] W fun e w' => e = .returned (.agg #[.int .i64 y1, .int .i64 y2, .int .i64 y3, .int .i64 y4, .int .i64 y5]) ∧ Below W.heap.size W w') ∧ Hid (y1 = readP rr (looseP rr).a ∧ y2 = readP rr (looseP rr).b ∧ y3 = readP rr (looseP rr).c ∧ y4 = readP rr (looseP rr).d ∧ y5 = readC rr) := ⟨_, _, _, _, _, hide (fun W h => turnRead_any rr W hrr' h), hide (fun W => specRead_any rr W hrr'), hide ⟨rfl, rfl, rfl, rfl, rfl⟩⟩
  refine (unhide cY _ (unhide HT)).mono ?_
  rintro e w14 ⟨rfl, hx⟩
  replace Ht := hide ((unhide Ht).kept (unhide Ht).lt hx)
  replace Hv := hide ((unhide Hv).kept (vlt (unhide Hv)) hx)
  replace Hs := hide ((unhide Hs).kept (unhide Hs).lt hx)
  replace Hu := hide ((unhide Hu).kept (unhide Hu).lt hx)
  replace Hx := hide ((unhide Hx).kept hx)
  replace Hk := hide ((unhide Hk).kept (unhide Hk).lt hx)
  replace Hm := hide ((unhide Hm).kept (unhide Hm).lt hx)
  replace HT := hide ((unhide HT).kept hx)
  replace HB := hide (below_call (unhide HB) hx)
  clear hx
  replace Ht := hide ((unhide Ht).alloc (.cells #[.int .i64 y1, .int .i64 y2, .int .i64 y3, .int .i64 y4, .int .i64 y5] 45))
  replace Hv := hide (VecAt.more (unhide Hv) (.cells #[.int .i64 y1, .int .i64 y2, .int .i64 y3, .int .i64 y4, .int .i64 y5] 45))
  replace Hs := hide ((unhide Hs).alloc (.cells #[.int .i64 y1, .int .i64 y2, .int .i64 y3, .int .i64 y4, .int .i64 y5] 45))
  replace Hu := hide ((unhide Hu).alloc (.cells #[.int .i64 y1, .int .i64 y2, .int .i64 y3, .int .i64 y4, .int .i64 y5] 45))
  replace Hx := hide ((unhide Hx).alloc (.cells #[.int .i64 y1, .int .i64 y2, .int .i64 y3, .int .i64 y4, .int .i64 y5] 45))
  replace Hk := hide ((unhide Hk).alloc (.cells #[.int .i64 y1, .int .i64 y2, .int .i64 y3, .int .i64 y4, .int .i64 y5] 45))
  replace Hm := hide ((unhide Hm).alloc (.cells #[.int .i64 y1, .int .i64 y2, .int .i64 y3, .int .i64 y4, .int .i64 y5] 45))
  have Hy := hide (by simpa using outAt_new w14 y1 y2 y3 y4 y5 45 : OutAt (w14.alloc (.cells #[.int .i64 y1, .int .i64 y2, .int .i64 y3, .int .i64 y4, .int .i64 y5] 45)) (w14.heap.size) y1 y2 y3 y4 y5)
  replace HB := hide (belowMoreT (unhide HB) (.cells #[.int .i64 y1, .int .i64 y2, .int .i64 y3, .int .i64 y4, .int .i64 y5] 45))
  replace HT := hide ((unhide HT).kept (below1 _ (.cells #[.int .i64 y1, .int .i64 y2, .int .i64 y3, .int .i64 y4, .int .i64 y5] 45)))
  go_wp2_with fail
  generalize (w14.alloc (.cells #[.int .i64 y1, .int .i64 y2, .int .i64 y3, .int .i64 y4, .int .i64 y5] 45)) = w15 at HB HT Ht Hv Hs Hu Hx Hk Hm Hy ⊢
  generalize w14.heap.size = bl6 at Hy ⊢
  obtain ⟨o1, o2, o3, o4, o5, cO, cOs, fO⟩ : ∃ o1 o2 o3 o4 o5 : Int, Hid (∀ W : World, Calls Tryd.prog 22 #[.int .i64 a1, .int .i64 a2, .int .i64 a3, .int .i64 a4] W fun e w' => e = .returned (.agg #[.int .i64 o1, .int .i64 o2, .int .i64 o3, .int .i64 o4, .int .i64 o5]) ∧ Below W.heap.size W w') ∧ Hid (∀ W : World, Calls Tryd.prog 23 #[.int .i64 a1, .int .i64 a2, .int .i64 a3, .int .i64 a4] W fun e w' => e = .returned (.agg #[.int .i64 o1, .int .i64 o2, .int .i64 o3, .int .i64 o4, .int .i64 o5]) ∧ Below W.heap.size W w') ∧ Hid (o1 = ofP a1 a2 a3 a4 a1 ∧ o2 = ofP a1 a2 a3 a4 a2 ∧ o3 = ofP a1 a2 a3 a4 a3 ∧ o4 = ofP a1 a2 a3 a4 a4 ∧ o5 = ofC a1 a2 a3 a4) := ⟨_, _, _, _, _, hide (fun W => turnOf_any a1 a2 a3 a4 W), hide (fun W => specTurnOf_any a1 a2 a3 a4 W), hide (⟨rfl, rfl, rfl, rfl, rfl⟩)⟩
  obtain ⟨q1, q2, q3, cA, cAs, fA⟩ : ∃ q1 q2 q3 : Int, Hid (∀ W : World, Calls Tryd.prog 24 #[.agg #[.int .i64 t1, .int .i64 t2, .int .i64 t3, .int .i64 t4], .agg #[.int .i64 v1, .int .i64 v2, .int .i64 v3]] W fun e w' => e = .returned (.agg #[.int .i64 q1, .int .i64 q2, .int .i64 q3]) ∧ Below W.heap.size W w') ∧ Hid (∀ W : World, Calls Tryd.prog 25 #[.agg #[.int .i64 t1, .int .i64 t2, .int .i64 t3, .int .i64 t4], .agg #[.int .i64 v1, .int .i64 v2, .int .i64 v3]] W fun e w' => e = .returned (.agg #[.int .i64 q1, .int .i64 q2, .int .i64 q3]) ∧ Below W.heap.size W w') ∧ Hid (q1 = apI (apR t1 t2 t3 t4 v1 v2 v3) (apX t1 t2 t3 t4 v1 v2 v3) ∧ q2 = apI (apR t1 t2 t3 t4 v1 v2 v3) (apY t1 t2 t3 t4 v1 v2 v3) ∧ q3 = apI (apR t1 t2 t3 t4 v1 v2 v3) (apZ t1 t2 t3 t4 v1 v2 v3)) := ⟨_, _, _, hide (fun W => apply_any t1 t2 t3 t4 v1 v2 v3 W), hide (fun W => specApply_any t1 t2 t3 t4 v1 v2 v3 W), hide (⟨rfl, rfl, rfl⟩)⟩
  obtain ⟨b1, b2, b3, b4, cB, cBs, fB⟩ : ∃ b1 b2 b3 b4 : Int, Hid (∀ W : World, Calls Tryd.prog 27 #[.agg #[.int .i64 k1, .int .i64 k2, .int .i64 k3, .int .i64 k4]] W fun e w' => e = .returned (.agg #[.int .i64 b1, .int .i64 b2, .int .i64 b3, .int .i64 b4]) ∧ Below W.heap.size W w') ∧ Hid (∀ W : World, Calls Tryd.prog 28 #[.agg #[.int .i64 k1, .int .i64 k2, .int .i64 k3, .int .i64 k4]] W fun e w' => e = .returned (.agg #[.int .i64 b1, .int .i64 b2, .int .i64 b3, .int .i64 b4]) ∧ Below W.heap.size W w') ∧ Hid (b1 = bkP k1 k2 k3 k4 k1 ∧ b2 = bkP k1 k2 k3 k4 (-k2) ∧ b3 = bkP k1 k2 k3 k4 (-k3) ∧ b4 = bkP k1 k2 k3 k4 (-k4)) := ⟨_, _, _, _, hide (fun W => back_any k1 k2 k3 k4 W), hide (fun W => specBack_any k1 k2 k3 k4 W), hide (⟨rfl, rfl, rfl, rfl⟩)⟩
  obtain ⟨rm, cR, cRs, fR⟩ : ∃ rm : Bool, Hid (∀ W : World, Calls Tryd.prog 31 #[.agg #[.int .i64 m1, .int .i64 m2, .int .i64 m3, .int .i64 m4]] W fun e w' => e = .returned (.bool rm) ∧ Below W.heap.size W w') ∧ Hid (∀ W : World, Calls Tryd.prog 32 #[.agg #[.int .i64 m1, .int .i64 m2, .int .i64 m3, .int .i64 m4]] W fun e w' => e = .returned (.bool rm) ∧ Below W.heap.size W w') ∧ Hid (rm = rightT m1 m2 m3 m4) := ⟨_, hide (fun W => turnRight_any m1 m2 m3 m4 W), hide (fun W => specTRight_any m1 m2 m3 m4 W), hide (rfl)⟩
  have n1 := neq_out o1 o2 o3 o4 o5
  have n2 := neq_vec_self q1 q2 q3
  have n3 := neq_out x1 x2 x3 x4 x5
  have n4 := neq_turn_self b1 b2 b3 b4
  have n5 := neq_out y1 y2 y3 y4 y5
  go_cut [112] from 22 (fun uu wr => uu = .bool false ∧ Hid (Below w.heap.size w wr ∧ TurnAt wr (bl2) s1 s2 s3 s4 ∧ TurnAt wr (bl2 + 1) u1 u2 u3 u4 ∧ OutAt wr (bl3) x1 x2 x3 x4 x5 ∧ TurnAt wr (bl4) k1 k2 k3 k4 ∧ TurnAt wr (bl5) m1 m2 m3 m4 ∧ OutAt wr (bl6) y1 y2 y3 y4 y5 ∧ Tab wr))
  case first => as_aux_lemma =>
    have vt := unhide Ht
    obtain ⟨ct0, ct1, ct2, ct3⟩ := vt
    have rt0 := cell_regrown ct0
    have rt1 := cell_regrown ct1
    have rt2 := cell_regrown ct2
    have rt3 := cell_regrown ct3
    clear ct0 ct1 ct2 ct3
    have vv := unhide Hv
    obtain ⟨cv0, cv1, cv2⟩ := vv
    have rv0 := cell_regrown cv0
    have rv1 := cell_regrown cv1
    have rv2 := cell_regrown cv2
    clear cv0 cv1 cv2
    have vs := unhide Hs
    obtain ⟨cs0, cs1, cs2, cs3⟩ := vs
    have rs0 := cell_regrown cs0
    have rs1 := cell_regrown cs1
    have rs2 := cell_regrown cs2
    have rs3 := cell_regrown cs3
    clear cs0 cs1 cs2 cs3
    have vu := unhide Hu
    obtain ⟨cu0, cu1, cu2, cu3⟩ := vu
    have ru0 := cell_regrown cu0
    have ru1 := cell_regrown cu1
    have ru2 := cell_regrown cu2
    have ru3 := cell_regrown cu3
    clear cu0 cu1 cu2 cu3
    have vx := unhide Hx
    obtain ⟨cx0, cx1, cx2, cx3, cx4⟩ := vx
    have rx0 := cell_regrown cx0
    have rx1 := cell_regrown cx1
    have rx2 := cell_regrown cx2
    have rx3 := cell_regrown cx3
    have rx4 := cell_regrown cx4
    clear cx0 cx1 cx2 cx3 cx4
    have vk := unhide Hk
    obtain ⟨ck0, ck1, ck2, ck3⟩ := vk
    have rk0 := cell_regrown ck0
    have rk1 := cell_regrown ck1
    have rk2 := cell_regrown ck2
    have rk3 := cell_regrown ck3
    clear ck0 ck1 ck2 ck3
    have vm := unhide Hm
    obtain ⟨cm0, cm1, cm2, cm3⟩ := vm
    have rm0 := cell_regrown cm0
    have rm1 := cell_regrown cm1
    have rm2 := cell_regrown cm2
    have rm3 := cell_regrown cm3
    clear cm0 cm1 cm2 cm3
    have vy := unhide Hy
    obtain ⟨cy0, cy1, cy2, cy3, cy4⟩ := vy
    have ry0 := cell_regrown cy0
    have ry1 := cell_regrown cy1
    have ry2 := cell_regrown cy2
    have ry3 := cell_regrown cy3
    have ry4 := cell_regrown cy4
    clear cy0 cy1 cy2 cy3 cy4
    refine wp_region_quiet_below (by kernel_rfl) (by kernel_rfl) ?_
    repeat (go_big_quiet_step (first | (with_reducible exact Calls.regrown_of (unhide cO _)) | (with_reducible exact Calls.regrown_of (unhide cOs _)) | (with_reducible exact Calls.regrown_of (unhide cA _)) | (with_reducible exact Calls.regrown_of (unhide cAs _)) | (with_reducible exact Calls.regrown_of (unhide cXs _)) | (with_reducible exact Calls.regrown_of (unhide cB _)) | (with_reducible exact Calls.regrown_of (unhide cBs _)) | (with_reducible exact Calls.regrown_of (unhide cTs _)) | (with_reducible exact Calls.regrown_of (unhide cYs _)) | (with_reducible exact Calls.regrown_of (unhide cR _)) | (with_reducible exact Calls.regrown_of (unhide cRs _))))
    refine wpQuiet_nil ?_
    intro _ hw'
    obtain ⟨⟨dq, osq⟩, hw''⟩ := hw'
    subst hw''
    clear rt0 rt1 rt2 rt3 rv0 rv1 rv2 rs0 rs1 rs2 rs3 ru0 ru1 ru2 ru3 rx0 rx1 rx2 rx3 rx4 rk0 rk1 rk2 rk3 rm0 rm1 rm2 rm3 ry0 ry1 ry2 ry3 ry4
    have hx := below_regrown w15 dq osq
    generalize grow (redrawn w15 dq) osq = w16 at hx ⊢
    replace Ht := hide ((unhide Ht).kept (unhide Ht).lt hx)
    replace Hv := hide ((unhide Hv).kept (vlt (unhide Hv)) hx)
    replace Hs := hide ((unhide Hs).kept (unhide Hs).lt hx)
    replace Hu := hide ((unhide Hu).kept (unhide Hu).lt hx)
    replace Hx := hide ((unhide Hx).kept hx)
    replace Hk := hide ((unhide Hk).kept (unhide Hk).lt hx)
    replace Hm := hide ((unhide Hm).kept (unhide Hm).lt hx)
    replace Hy := hide ((unhide Hy).kept hx)
    replace HT := hide ((unhide HT).kept hx)
    replace HB := hide (below_call (unhide HB) hx)
    clear hx
    go_wp2_with fail
    go_meet
    case rel => exact ⟨rfl, hide ⟨unhide HB, unhide Hs, unhide Hu, unhide Hx, unhide Hk, unhide Hm, unhide Hy, unhide HT⟩⟩
  case rest => as_aux_lemma =>
    clear HB HT Ht Hv Hs Hu Hx Hk Hm Hy
    obtain ⟨hu112, hcut⟩ := hcut
    subst hu112
    obtain ⟨hb', hs', hu', hx', hk', hm', hy', hT'⟩ := unhide hcut
    have HT := hide hT'
    clear hT'
    have HB := hide hb'
    have Hs := hide hs'
    have Hu := hide hu'
    have Hx := hide hx'
    have Hk := hide hk'
    have Hm := hide hm'
    have Hy := hide hy'
    clear hcut hb' hs' hu' hx' hk' hm' hy'
    clear n1 n2 n3 n4 n5 cO cOs cA cAs cX cXs cBs cTs cYs cR cRs fO fA fR
    go_wp2_with fail
    have fT' := unhide fT
    have fY' := unhide fY
    go_cut [133] from 22 (fun uu wr => uu = .bool false ∧ Hid (Below w.heap.size w wr ∧ TurnAt wr (bl2) s1 s2 s3 s4 ∧ TurnAt wr (bl2 + 1) u1 u2 u3 u4 ∧ OutAt wr (bl3) x1 x2 x3 x4 x5 ∧ TurnAt wr (bl4) k1 k2 k3 k4))
    case first => as_aux_lemma =>
      by_cases htx : tx.size = 0
      · by_cases hy5 : y5 = 0
        · have htx' : tx = ⟨#[]⟩ := by cases tx with | mk d => exact congrArg ByteArray.mk (Array.eq_empty_of_size_eq_zero htx)
          subst htx'
          subst hy5
          have e2 : textB y1 y2 y3 y4 = rr := by have := text_read fY'.2.2.2.2.symm; rw [← fY'.1, ← fY'.2.1, ← fY'.2.2.1, ← fY'.2.2.2.1] at this; exact this
          have cTT : Hid (∀ W : World, Tab W → Calls Tryd.prog 19 #[.agg #[.int .i64 y1, .int .i64 y2, .int .i64 y3, .int .i64 y4]] W fun e w' => e = .returned (.string rr) ∧ Below W.heap.size W w') := hide (fun W h => (turnText_any y1 y2 y3 y4 W h).mono fun e w' h => ⟨by rw [h.1, e2], h.2⟩)
          have hnr := tstr_eq (rfl : rr = rr)
          clear e2
          clear fT' fY'
          have vm := unhide Hm
          obtain ⟨cm0, cm1, cm2, cm3⟩ := vm
          have rm0 := cell_regrown cm0
          have rm1 := cell_regrown cm1
          have rm2 := cell_regrown cm2
          have rm3 := cell_regrown cm3
          clear cm0 cm1 cm2 cm3
          have vy := unhide Hy
          obtain ⟨cy0, cy1, cy2, cy3, cy4⟩ := vy
          have ry0 := cell_regrown cy0
          have ry1 := cell_regrown cy1
          have ry2 := cell_regrown cy2
          have ry3 := cell_regrown cy3
          have ry4 := cell_regrown cy4
          clear cy0 cy1 cy2 cy3 cy4
          refine wp_region_quiet_below (by kernel_rfl) (by kernel_rfl) ?_
          repeat (go_big_quiet_step (first | (with_reducible exact Calls.regrown_of (unhide cTT _ ((unhide HT).kept (below_regrown _ _ _))))))
          refine wpQuiet_nil ?_
          intro _ hw'
          obtain ⟨⟨dq, osq⟩, hw''⟩ := hw'
          subst hw''
          clear rm0 rm1 rm2 rm3 ry0 ry1 ry2 ry3 ry4
          have hx := below_regrown wc dq osq
          generalize grow (redrawn wc dq) osq = w16 at hx ⊢
          replace Hs := hide ((unhide Hs).kept (unhide Hs).lt hx)
          replace Hu := hide ((unhide Hu).kept (unhide Hu).lt hx)
          replace Hx := hide ((unhide Hx).kept hx)
          replace Hk := hide ((unhide Hk).kept (unhide Hk).lt hx)
          replace Hm := hide ((unhide Hm).kept (unhide Hm).lt hx)
          replace Hy := hide ((unhide Hy).kept hx)
          replace HT := hide ((unhide HT).kept hx)
          replace HB := hide (below_call (unhide HB) hx)
          clear hx
          go_wp2_with fail
          go_meet
          case rel => exact ⟨rfl, hide ⟨unhide HB, unhide Hs, unhide Hu, unhide Hx, unhide Hk⟩⟩
        · have htx' : tx = ⟨#[]⟩ := by cases tx with | mk d => exact congrArg ByteArray.mk (Array.eq_empty_of_size_eq_zero htx)
          subst htx'
          have hy5' : (y5 == 0) = false := by simp [hy5]
          clear fT' fY'
          have vm := unhide Hm
          obtain ⟨cm0, cm1, cm2, cm3⟩ := vm
          have rm0 := cell_regrown cm0
          have rm1 := cell_regrown cm1
          have rm2 := cell_regrown cm2
          have rm3 := cell_regrown cm3
          clear cm0 cm1 cm2 cm3
          have vy := unhide Hy
          obtain ⟨cy0, cy1, cy2, cy3, cy4⟩ := vy
          have ry0 := cell_regrown cy0
          have ry1 := cell_regrown cy1
          have ry2 := cell_regrown cy2
          have ry3 := cell_regrown cy3
          have ry4 := cell_regrown cy4
          clear cy0 cy1 cy2 cy3 cy4
          refine wp_region_quiet_below (by kernel_rfl) (by kernel_rfl) ?_
          repeat (go_big_quiet_step (first | (with_reducible exact Calls.regrown_of (unhide cB _))))
          refine wpQuiet_nil ?_
          intro _ hw'
          obtain ⟨⟨dq, osq⟩, hw''⟩ := hw'
          subst hw''
          clear rm0 rm1 rm2 rm3 ry0 ry1 ry2 ry3 ry4
          have hx := below_regrown wc dq osq
          generalize grow (redrawn wc dq) osq = w16 at hx ⊢
          replace Hs := hide ((unhide Hs).kept (unhide Hs).lt hx)
          replace Hu := hide ((unhide Hu).kept (unhide Hu).lt hx)
          replace Hx := hide ((unhide Hx).kept hx)
          replace Hk := hide ((unhide Hk).kept (unhide Hk).lt hx)
          replace Hm := hide ((unhide Hm).kept (unhide Hm).lt hx)
          replace Hy := hide ((unhide Hy).kept hx)
          replace HT := hide ((unhide HT).kept hx)
          replace HB := hide (below_call (unhide HB) hx)
          clear hx
          go_wp2_with fail
          go_meet
          case rel => exact ⟨rfl, hide ⟨unhide HB, unhide Hs, unhide Hu, unhide Hx, unhide Hk⟩⟩
      · by_cases hy5 : y5 = 0
        · have e1 := read_text fT' htx
          have cTR : Hid (∀ W : World, Tab W → Calls Tryd.prog 21 #[.string tx] W fun e w' => e = .returned (.agg #[.int .i64 m1, .int .i64 m2, .int .i64 m3, .int .i64 m4, .int .i64 0]) ∧ Below W.heap.size W w') := hide (fun W h => (turnRead_any tx W (by have := text_size (a := m1) (b := m2) (c := m3) (d := m4); rw [← fT'] at this; omega) h).mono fun e w' h => ⟨by rw [h.1, e1.1, e1.2.1, e1.2.2.1, e1.2.2.2.1, e1.2.2.2.2], h.2⟩)
          have hnt := toList_full htx
          have hqt := neq_empty tx htx
          have hte : tx.toList.isEmpty = false := by cases h : tx.toList with | nil => exact absurd h hnt | cons a b => rfl
          have htb : (tx.toList == []) = false := by cases h : tx.toList with | nil => exact absurd h hnt | cons a b => rfl
          have htz : decide (tx.toList = []) = false := by simp [hnt]
          have n1 := neq_out m1 m2 m3 m4 0
          clear e1
          subst hy5
          have e2 : textB y1 y2 y3 y4 = rr := by have := text_read fY'.2.2.2.2.symm; rw [← fY'.1, ← fY'.2.1, ← fY'.2.2.1, ← fY'.2.2.2.1] at this; exact this
          have cTT : Hid (∀ W : World, Tab W → Calls Tryd.prog 19 #[.agg #[.int .i64 y1, .int .i64 y2, .int .i64 y3, .int .i64 y4]] W fun e w' => e = .returned (.string rr) ∧ Below W.heap.size W w') := hide (fun W h => (turnText_any y1 y2 y3 y4 W h).mono fun e w' h => ⟨by rw [h.1, e2], h.2⟩)
          have hnr := tstr_eq (rfl : rr = rr)
          clear e2
          clear fT' fY'
          have vm := unhide Hm
          obtain ⟨cm0, cm1, cm2, cm3⟩ := vm
          have rm0 := cell_regrown cm0
          have rm1 := cell_regrown cm1
          have rm2 := cell_regrown cm2
          have rm3 := cell_regrown cm3
          clear cm0 cm1 cm2 cm3
          have vy := unhide Hy
          obtain ⟨cy0, cy1, cy2, cy3, cy4⟩ := vy
          have ry0 := cell_regrown cy0
          have ry1 := cell_regrown cy1
          have ry2 := cell_regrown cy2
          have ry3 := cell_regrown cy3
          have ry4 := cell_regrown cy4
          clear cy0 cy1 cy2 cy3 cy4
          refine wp_region_quiet_below (by kernel_rfl) (by kernel_rfl) ?_
          repeat (go_big_quiet_step (first | (with_reducible exact Calls.regrown_of (unhide cTR _ ((unhide HT).kept (below_regrown _ _ _)))) | (with_reducible exact Calls.regrown_of (unhide cTT _ ((unhide HT).kept (below_regrown _ _ _))))))
          refine wpQuiet_nil ?_
          intro _ hw'
          obtain ⟨⟨dq, osq⟩, hw''⟩ := hw'
          subst hw''
          clear rm0 rm1 rm2 rm3 ry0 ry1 ry2 ry3 ry4
          have hx := below_regrown wc dq osq
          generalize grow (redrawn wc dq) osq = w16 at hx ⊢
          replace Hs := hide ((unhide Hs).kept (unhide Hs).lt hx)
          replace Hu := hide ((unhide Hu).kept (unhide Hu).lt hx)
          replace Hx := hide ((unhide Hx).kept hx)
          replace Hk := hide ((unhide Hk).kept (unhide Hk).lt hx)
          replace Hm := hide ((unhide Hm).kept (unhide Hm).lt hx)
          replace Hy := hide ((unhide Hy).kept hx)
          replace HT := hide ((unhide HT).kept hx)
          replace HB := hide (below_call (unhide HB) hx)
          clear hx
          go_wp2_with fail
          go_meet
          case rel => exact ⟨rfl, hide ⟨unhide HB, unhide Hs, unhide Hu, unhide Hx, unhide Hk⟩⟩
        · have e1 := read_text fT' htx
          have cTR : Hid (∀ W : World, Tab W → Calls Tryd.prog 21 #[.string tx] W fun e w' => e = .returned (.agg #[.int .i64 m1, .int .i64 m2, .int .i64 m3, .int .i64 m4, .int .i64 0]) ∧ Below W.heap.size W w') := hide (fun W h => (turnRead_any tx W (by have := text_size (a := m1) (b := m2) (c := m3) (d := m4); rw [← fT'] at this; omega) h).mono fun e w' h => ⟨by rw [h.1, e1.1, e1.2.1, e1.2.2.1, e1.2.2.2.1, e1.2.2.2.2], h.2⟩)
          have hnt := toList_full htx
          have hqt := neq_empty tx htx
          have hte : tx.toList.isEmpty = false := by cases h : tx.toList with | nil => exact absurd h hnt | cons a b => rfl
          have htb : (tx.toList == []) = false := by cases h : tx.toList with | nil => exact absurd h hnt | cons a b => rfl
          have htz : decide (tx.toList = []) = false := by simp [hnt]
          have n1 := neq_out m1 m2 m3 m4 0
          clear e1
          have hy5' : (y5 == 0) = false := by simp [hy5]
          clear fT' fY'
          have vm := unhide Hm
          obtain ⟨cm0, cm1, cm2, cm3⟩ := vm
          have rm0 := cell_regrown cm0
          have rm1 := cell_regrown cm1
          have rm2 := cell_regrown cm2
          have rm3 := cell_regrown cm3
          clear cm0 cm1 cm2 cm3
          have vy := unhide Hy
          obtain ⟨cy0, cy1, cy2, cy3, cy4⟩ := vy
          have ry0 := cell_regrown cy0
          have ry1 := cell_regrown cy1
          have ry2 := cell_regrown cy2
          have ry3 := cell_regrown cy3
          have ry4 := cell_regrown cy4
          clear cy0 cy1 cy2 cy3 cy4
          refine wp_region_quiet_below (by kernel_rfl) (by kernel_rfl) ?_
          repeat (go_big_quiet_step (first | (with_reducible exact Calls.regrown_of (unhide cTR _ ((unhide HT).kept (below_regrown _ _ _))))))
          refine wpQuiet_nil ?_
          intro _ hw'
          obtain ⟨⟨dq, osq⟩, hw''⟩ := hw'
          subst hw''
          clear rm0 rm1 rm2 rm3 ry0 ry1 ry2 ry3 ry4
          have hx := below_regrown wc dq osq
          generalize grow (redrawn wc dq) osq = w16 at hx ⊢
          replace Hs := hide ((unhide Hs).kept (unhide Hs).lt hx)
          replace Hu := hide ((unhide Hu).kept (unhide Hu).lt hx)
          replace Hx := hide ((unhide Hx).kept hx)
          replace Hk := hide ((unhide Hk).kept (unhide Hk).lt hx)
          replace Hm := hide ((unhide Hm).kept (unhide Hm).lt hx)
          replace Hy := hide ((unhide Hy).kept hx)
          replace HT := hide ((unhide HT).kept hx)
          replace HB := hide (below_call (unhide HB) hx)
          clear hx
          go_wp2_with fail
          go_meet
          case rel => exact ⟨rfl, hide ⟨unhide HB, unhide Hs, unhide Hu, unhide Hx, unhide Hk⟩⟩
    case rest => as_aux_lemma =>
      clear HB HT Hs Hu Hx Hk Hm Hy
      obtain ⟨hu133, hcut⟩ := hcut
      subst hu133
      obtain ⟨hb', hs', hu', hx', hk'⟩ := unhide hcut
      have HB := hide hb'
      have Hs := hide hs'
      have Hu := hide hu'
      have Hx := hide hx'
      have Hk := hide hk'
      clear hcut hb' hs' hu' hx' hk'
      clear fT' fY' fT fY
      replace Hs := hide ((unhide Hs).alloc (.cells #[.int .i64 1, .int .i64 0, .int .i64 0, .int .i64 0] 37))
      replace Hu := hide ((unhide Hu).alloc (.cells #[.int .i64 1, .int .i64 0, .int .i64 0, .int .i64 0] 37))
      replace Hx := hide ((unhide Hx).alloc (.cells #[.int .i64 1, .int .i64 0, .int .i64 0, .int .i64 0] 37))
      replace Hk := hide ((unhide Hk).alloc (.cells #[.int .i64 1, .int .i64 0, .int .i64 0, .int .i64 0] 37))
      have Hone := hide (by simpa using turnAt_new wc 1 0 0 0 37 : TurnAt (wc.alloc (.cells #[.int .i64 1, .int .i64 0, .int .i64 0, .int .i64 0] 37)) (wc.heap.size) 1 0 0 0)
      replace HB := hide (belowMoreT (unhide HB) (.cells #[.int .i64 1, .int .i64 0, .int .i64 0, .int .i64 0] 37))
      have HT := trivial
      go_wp2_with fail
      generalize (wc.alloc (.cells #[.int .i64 1, .int .i64 0, .int .i64 0, .int .i64 0] 37)) = w16 at HB Hs Hu Hx Hk Hone ⊢
      generalize wc.heap.size = blo at Hone ⊢
      go_cut [152] from 22 (fun uu wr => uu = .bool false ∧ Hid (Below w.heap.size w wr ∧ TurnAt wr (bl2) s1 s2 s3 s4 ∧ TurnAt wr (bl2 + 1) u1 u2 u3 u4 ∧ OutAt wr (bl3) x1 x2 x3 x4 x5 ∧ TurnAt wr (bl4) k1 k2 k3 k4))
      case first => as_aux_lemma =>
        by_cases hk : rightT k1 k2 k3 k4 = true
        · obtain ⟨fB', cBB, cCo⟩ := law_back hk (unhide fB)
          have cRk : Hid (∀ W : World, Calls Tryd.prog 32 #[.agg #[.int .i64 k1, .int .i64 k2, .int .i64 k3, .int .i64 k4]] W fun e w' => e = .returned (.bool true) ∧ Below W.heap.size W w') := hide (fun W => (specTRight_any k1 k2 k3 k4 W).mono fun e w' h => ⟨by rw [h.1, hk], h.2⟩)
          have n1 := neq_turn_self k1 k2 k3 k4
          have n2 := neq_out 1 0 0 0 0
          clear fB'
          have vk := unhide Hk
          obtain ⟨ck0, ck1, ck2, ck3⟩ := vk
          have rk0 := cell_regrown ck0
          have rk1 := cell_regrown ck1
          have rk2 := cell_regrown ck2
          have rk3 := cell_regrown ck3
          clear ck0 ck1 ck2 ck3
          have vone := unhide Hone
          obtain ⟨cone0, cone1, cone2, cone3⟩ := vone
          have rone0 := cell_regrown cone0
          have rone1 := cell_regrown cone1
          have rone2 := cell_regrown cone2
          have rone3 := cell_regrown cone3
          clear cone0 cone1 cone2 cone3
          refine wp_region_quiet_below (by kernel_rfl) (by kernel_rfl) ?_
          repeat (go_big_quiet_step (first | (with_reducible exact Calls.regrown_of (unhide cRk _)) | (with_reducible exact Calls.regrown_of (unhide cB _)) | (with_reducible exact Calls.regrown_of (unhide cBB _)) | (with_reducible exact Calls.regrown_of (unhide cCo _))))
          refine wpQuiet_nil ?_
          intro _ hw'
          obtain ⟨⟨dq, osq⟩, hw''⟩ := hw'
          subst hw''
          clear rk0 rk1 rk2 rk3 rone0 rone1 rone2 rone3
          have hx := below_regrown w16 dq osq
          generalize grow (redrawn w16 dq) osq = w17 at hx ⊢
          replace Hs := hide ((unhide Hs).kept (unhide Hs).lt hx)
          replace Hu := hide ((unhide Hu).kept (unhide Hu).lt hx)
          replace Hx := hide ((unhide Hx).kept hx)
          replace Hk := hide ((unhide Hk).kept (unhide Hk).lt hx)
          replace Hone := hide ((unhide Hone).kept (unhide Hone).lt hx)
          replace HB := hide (below_call (unhide HB) hx)
          clear hx
          go_wp2_with fail
          go_meet
          case rel => exact ⟨rfl, hide ⟨unhide HB, unhide Hs, unhide Hu, unhide Hx, unhide Hk⟩⟩
        · have hk' : rightT k1 k2 k3 k4 = false := by simpa using hk
          have cRk : Hid (∀ W : World, Calls Tryd.prog 32 #[.agg #[.int .i64 k1, .int .i64 k2, .int .i64 k3, .int .i64 k4]] W fun e w' => e = .returned (.bool false) ∧ Below W.heap.size W w') := hide (fun W => (specTRight_any k1 k2 k3 k4 W).mono fun e w' h => ⟨by rw [h.1, hk'], h.2⟩)
          clear hk hk'
          have vk := unhide Hk
          obtain ⟨ck0, ck1, ck2, ck3⟩ := vk
          have rk0 := cell_regrown ck0
          have rk1 := cell_regrown ck1
          have rk2 := cell_regrown ck2
          have rk3 := cell_regrown ck3
          clear ck0 ck1 ck2 ck3
          have vone := unhide Hone
          obtain ⟨cone0, cone1, cone2, cone3⟩ := vone
          have rone0 := cell_regrown cone0
          have rone1 := cell_regrown cone1
          have rone2 := cell_regrown cone2
          have rone3 := cell_regrown cone3
          clear cone0 cone1 cone2 cone3
          refine wp_region_quiet_below (by kernel_rfl) (by kernel_rfl) ?_
          repeat (go_big_quiet_step (first | (with_reducible exact Calls.regrown_of (unhide cRk _))))
          refine wpQuiet_nil ?_
          intro _ hw'
          obtain ⟨⟨dq, osq⟩, hw''⟩ := hw'
          subst hw''
          clear rk0 rk1 rk2 rk3 rone0 rone1 rone2 rone3
          have hx := below_regrown w16 dq osq
          generalize grow (redrawn w16 dq) osq = w17 at hx ⊢
          replace Hs := hide ((unhide Hs).kept (unhide Hs).lt hx)
          replace Hu := hide ((unhide Hu).kept (unhide Hu).lt hx)
          replace Hx := hide ((unhide Hx).kept hx)
          replace Hk := hide ((unhide Hk).kept (unhide Hk).lt hx)
          replace Hone := hide ((unhide Hone).kept (unhide Hone).lt hx)
          replace HB := hide (below_call (unhide HB) hx)
          clear hx
          go_wp2_with fail
          go_meet
          case rel => exact ⟨rfl, hide ⟨unhide HB, unhide Hs, unhide Hu, unhide Hx, unhide Hk⟩⟩
      case rest => as_aux_lemma =>
        clear HB HT Hs Hu Hx Hk Hone
        obtain ⟨hu152, hcut⟩ := hcut
        subst hu152
        obtain ⟨hb', hs', hu', hx', hk'⟩ := unhide hcut
        have HB := hide hb'
        have Hs := hide hs'
        have Hu := hide hu'
        have Hx := hide hx'
        have Hk := hide hk'
        clear hcut hb' hs' hu' hx' hk'
        have HT := trivial
        go_wp2_with fail
        refine (lwAt_any a1' len1 cap1 0 9 _ h1 (by omega) (by omega) ((unhide R1).belowT (unhide HB))).mono ?_
        rintro e wl ⟨i0, rfl, i0l, i0u, _, hw⟩
        rw [hw]
        clear hw wl
        replace i0u : i0 < 9 := i0u (by omega)
        go_wp2_with fail
        refine (lwAt_any a1' len1 cap1 1 9 _ h1 (by omega) (by omega) ((unhide R1).belowT (unhide HB))).mono ?_
        rintro e wl ⟨i1, rfl, i1l, i1u, _, hw⟩
        rw [hw]
        clear hw wl
        replace i1u : i1 < 9 := i1u (by omega)
        go_wp2_with fail
        refine (lwAt_any a1' len1 cap1 2 9 _ h1 (by omega) (by omega) ((unhide R1).belowT (unhide HB))).mono ?_
        rintro e wl ⟨i2, rfl, i2l, i2u, _, hw⟩
        rw [hw]
        clear hw wl
        replace i2u : i2 < 9 := i2u (by omega)
        go_wp2_with fail
        replace Hs := hide ((unhide Hs).alloc (.cells #[.int .i64 (i0 - 4), .int .i64 (i1 - 4), .int .i64 (1 + i2)] 39))
        replace Hu := hide ((unhide Hu).alloc (.cells #[.int .i64 (i0 - 4), .int .i64 (i1 - 4), .int .i64 (1 + i2)] 39))
        replace Hx := hide ((unhide Hx).alloc (.cells #[.int .i64 (i0 - 4), .int .i64 (i1 - 4), .int .i64 (1 + i2)] 39))
        replace Hk := hide ((unhide Hk).alloc (.cells #[.int .i64 (i0 - 4), .int .i64 (i1 - 4), .int .i64 (1 + i2)] 39))
        have Hp := hide (by simpa using vecAt_new wc (i0 - 4) (i1 - 4) (1 + i2) 39 : VecAt (wc.alloc (.cells #[.int .i64 (i0 - 4), .int .i64 (i1 - 4), .int .i64 (1 + i2)] 39)) (wc.heap.size) (i0 - 4) (i1 - 4) (1 + i2))
        replace HB := hide (belowMoreT (unhide HB) (.cells #[.int .i64 (i0 - 4), .int .i64 (i1 - 4), .int .i64 (1 + i2)] 39))
        have Np : Hid (nearB (i0 - 4) (i1 - 4) (1 + i2)) := hide (by unfold nearB; omega)
        generalize (wc.alloc (.cells #[.int .i64 (i0 - 4), .int .i64 (i1 - 4), .int .i64 (1 + i2)] 39)) = w17 at HB Hs Hu Hx Hk Hp ⊢
        generalize wc.heap.size = blp at Hp ⊢
        generalize i0 - 4 = p1 at Np Hp ⊢
        generalize i1 - 4 = p2 at Np Hp ⊢
        generalize 1 + i2 = p3 at Np Hp ⊢
        clear i0l i0u i1l i1u i2l i2u
        refine (lwAt_any a1' len1 cap1 3 9 _ h1 (by omega) (by omega) ((unhide R1).belowT (unhide HB))).mono ?_
        rintro e wl ⟨i3, rfl, i3l, i3u, _, hw⟩
        rw [hw]
        clear hw wl
        replace i3u : i3 < 9 := i3u (by omega)
        go_wp2_with fail
        refine (lwAt_any a1' len1 cap1 4 9 _ h1 (by omega) (by omega) ((unhide R1).belowT (unhide HB))).mono ?_
        rintro e wl ⟨i4, rfl, i4l, i4u, _, hw⟩
        rw [hw]
        clear hw wl
        replace i4u : i4 < 9 := i4u (by omega)
        go_wp2_with fail
        refine (lwAt_any a1' len1 cap1 5 9 _ h1 (by omega) (by omega) ((unhide R1).belowT (unhide HB))).mono ?_
        rintro e wl ⟨i5, rfl, i5l, i5u, _, hw⟩
        rw [hw]
        clear hw wl
        replace i5u : i5 < 9 := i5u (by omega)
        go_wp2_with fail
        replace Hs := hide ((unhide Hs).alloc (.cells #[.int .i64 (i3 - 4), .int .i64 (i4 - 4), .int .i64 (1 + i5)] 39))
        replace Hu := hide ((unhide Hu).alloc (.cells #[.int .i64 (i3 - 4), .int .i64 (i4 - 4), .int .i64 (1 + i5)] 39))
        replace Hx := hide ((unhide Hx).alloc (.cells #[.int .i64 (i3 - 4), .int .i64 (i4 - 4), .int .i64 (1 + i5)] 39))
        replace Hk := hide ((unhide Hk).alloc (.cells #[.int .i64 (i3 - 4), .int .i64 (i4 - 4), .int .i64 (1 + i5)] 39))
        replace Hp := hide (VecAt.more (unhide Hp) (.cells #[.int .i64 (i3 - 4), .int .i64 (i4 - 4), .int .i64 (1 + i5)] 39))
        have Hq := hide (by simpa using vecAt_new w17 (i3 - 4) (i4 - 4) (1 + i5) 39 : VecAt (w17.alloc (.cells #[.int .i64 (i3 - 4), .int .i64 (i4 - 4), .int .i64 (1 + i5)] 39)) (w17.heap.size) (i3 - 4) (i4 - 4) (1 + i5))
        replace HB := hide (belowMoreT (unhide HB) (.cells #[.int .i64 (i3 - 4), .int .i64 (i4 - 4), .int .i64 (1 + i5)] 39))
        have Nq : Hid (nearB (i3 - 4) (i4 - 4) (1 + i5)) := hide (by unfold nearB; omega)
        generalize (w17.alloc (.cells #[.int .i64 (i3 - 4), .int .i64 (i4 - 4), .int .i64 (1 + i5)] 39)) = w18 at HB Hs Hu Hx Hk Hp Hq ⊢
        generalize w17.heap.size = blq at Hq ⊢
        generalize i3 - 4 = q1 at Nq Hq ⊢
        generalize i4 - 4 = q2 at Nq Hq ⊢
        generalize 1 + i5 = q3 at Nq Hq ⊢
        clear i3l i3u i4l i4u i5l i5u
        go_cut [198] from 22 (fun uu wr => uu = .bool false ∧ Hid (Below w.heap.size w wr ∧ TurnAt wr (bl2) s1 s2 s3 s4 ∧ TurnAt wr (bl2 + 1) u1 u2 u3 u4 ∧ OutAt wr (bl3) x1 x2 x3 x4 x5 ∧ VecAt wr (blp) p1 p2 p3))
        case first => as_aux_lemma =>
          by_cases hk : rightT k1 k2 k3 k4 = true
          · obtain ⟨fB', _, _⟩ := law_back hk (unhide fB)
            obtain ⟨g1, g2, g3, h1', h2', h3', e1', e2', e3', l1, l2, l3, c1, c2, c3, c4, c5, c6⟩ := law_keep hk fB' (unhide Np) (unhide Nq)
            have cRk : Hid (∀ W : World, Calls Tryd.prog 32 #[.agg #[.int .i64 k1, .int .i64 k2, .int .i64 k3, .int .i64 k4]] W fun e w' => e = .returned (.bool true) ∧ Below W.heap.size W w') := hide (fun W => (specTRight_any k1 k2 k3 k4 W).mono fun e w' h => ⟨by rw [h.1, hk], h.2⟩)
            clear fB' hk
            have vk := unhide Hk
            obtain ⟨ck0, ck1, ck2, ck3⟩ := vk
            have rk0 := cell_regrown ck0
            have rk1 := cell_regrown ck1
            have rk2 := cell_regrown ck2
            have rk3 := cell_regrown ck3
            clear ck0 ck1 ck2 ck3
            have vp := unhide Hp
            obtain ⟨cp0, cp1, cp2⟩ := vp
            have rp0 := cell_regrown cp0
            have rp1 := cell_regrown cp1
            have rp2 := cell_regrown cp2
            clear cp0 cp1 cp2
            have vq := unhide Hq
            obtain ⟨cq0, cq1, cq2⟩ := vq
            have rq0 := cell_regrown cq0
            have rq1 := cell_regrown cq1
            have rq2 := cell_regrown cq2
            clear cq0 cq1 cq2
            refine wp_region_quiet_below (by kernel_rfl) (by kernel_rfl) ?_
            repeat (go_big_quiet_step (first | (with_reducible exact Calls.regrown_of (unhide cRk _)) | (with_reducible exact Calls.regrown_of (unhide cB _)) | (with_reducible exact Calls.regrown_of (unhide c1 _)) | (with_reducible exact Calls.regrown_of (unhide c2 _)) | (with_reducible exact Calls.regrown_of (unhide c3 _)) | (with_reducible exact Calls.regrown_of (unhide c4 _)) | (with_reducible exact Calls.regrown_of (unhide c5 _)) | (with_reducible exact Calls.regrown_of (unhide c6 _))))
            refine wpQuiet_nil ?_
            intro _ hw'
            obtain ⟨⟨dq, osq⟩, hw''⟩ := hw'
            subst hw''
            clear rk0 rk1 rk2 rk3 rp0 rp1 rp2 rq0 rq1 rq2
            have hx := below_regrown w18 dq osq
            generalize grow (redrawn w18 dq) osq = w19 at hx ⊢
            replace Hs := hide ((unhide Hs).kept (unhide Hs).lt hx)
            replace Hu := hide ((unhide Hu).kept (unhide Hu).lt hx)
            replace Hx := hide ((unhide Hx).kept hx)
            replace Hk := hide ((unhide Hk).kept (unhide Hk).lt hx)
            replace Hp := hide ((unhide Hp).kept (vlt (unhide Hp)) hx)
            replace Hq := hide ((unhide Hq).kept (vlt (unhide Hq)) hx)
            replace HB := hide (below_call (unhide HB) hx)
            clear hx
            go_wp2_with fail
            go_meet
            case rel => exact ⟨rfl, hide ⟨unhide HB, unhide Hs, unhide Hu, unhide Hx, unhide Hp⟩⟩
          · have hk' : rightT k1 k2 k3 k4 = false := by simpa using hk
            have cRk : Hid (∀ W : World, Calls Tryd.prog 32 #[.agg #[.int .i64 k1, .int .i64 k2, .int .i64 k3, .int .i64 k4]] W fun e w' => e = .returned (.bool false) ∧ Below W.heap.size W w') := hide (fun W => (specTRight_any k1 k2 k3 k4 W).mono fun e w' h => ⟨by rw [h.1, hk'], h.2⟩)
            clear hk hk'
            have vk := unhide Hk
            obtain ⟨ck0, ck1, ck2, ck3⟩ := vk
            have rk0 := cell_regrown ck0
            have rk1 := cell_regrown ck1
            have rk2 := cell_regrown ck2
            have rk3 := cell_regrown ck3
            clear ck0 ck1 ck2 ck3
            have vp := unhide Hp
            obtain ⟨cp0, cp1, cp2⟩ := vp
            have rp0 := cell_regrown cp0
            have rp1 := cell_regrown cp1
            have rp2 := cell_regrown cp2
            clear cp0 cp1 cp2
            have vq := unhide Hq
            obtain ⟨cq0, cq1, cq2⟩ := vq
            have rq0 := cell_regrown cq0
            have rq1 := cell_regrown cq1
            have rq2 := cell_regrown cq2
            clear cq0 cq1 cq2
            refine wp_region_quiet_below (by kernel_rfl) (by kernel_rfl) ?_
            repeat (go_big_quiet_step (first | (with_reducible exact Calls.regrown_of (unhide cRk _))))
            refine wpQuiet_nil ?_
            intro _ hw'
            obtain ⟨⟨dq, osq⟩, hw''⟩ := hw'
            subst hw''
            clear rk0 rk1 rk2 rk3 rp0 rp1 rp2 rq0 rq1 rq2
            have hx := below_regrown w18 dq osq
            generalize grow (redrawn w18 dq) osq = w19 at hx ⊢
            replace Hs := hide ((unhide Hs).kept (unhide Hs).lt hx)
            replace Hu := hide ((unhide Hu).kept (unhide Hu).lt hx)
            replace Hx := hide ((unhide Hx).kept hx)
            replace Hk := hide ((unhide Hk).kept (unhide Hk).lt hx)
            replace Hp := hide ((unhide Hp).kept (vlt (unhide Hp)) hx)
            replace Hq := hide ((unhide Hq).kept (vlt (unhide Hq)) hx)
            replace HB := hide (below_call (unhide HB) hx)
            clear hx
            go_wp2_with fail
            go_meet
            case rel => exact ⟨rfl, hide ⟨unhide HB, unhide Hs, unhide Hu, unhide Hx, unhide Hp⟩⟩
        case rest => as_aux_lemma =>
          clear HB HT Hs Hu Hx Hk Hp Hq
          obtain ⟨hu198, hcut⟩ := hcut
          subst hu198
          obtain ⟨hb', hs', hu', hx', hp'⟩ := unhide hcut
          have HB := hide hb'
          have Hs := hide hs'
          have Hu := hide hu'
          have Hx := hide hx'
          have Hp := hide hp'
          clear hcut hb' hs' hu' hx' hp'
          go_wp2_with fail
          by_cases hx5 : x5 = 0
          · have fX' := unhide fX
            rw [hx5] at fX'
            obtain ⟨g1, g2, g3, e1', e2', e3', l1, l2, l3, j1, j2, j3, c1, c2, c3, c4, c5⟩ := law_two fX'.2.2.2.2.symm ⟨fX'.1, fX'.2.1, fX'.2.2.1, fX'.2.2.2.1⟩ (unhide Np)
            clear fX' fX
            subst hx5
            have vs := unhide Hs
            obtain ⟨cs0, cs1, cs2, cs3⟩ := vs
            have rs0 := cell_regrown cs0
            have rs1 := cell_regrown cs1
            have rs2 := cell_regrown cs2
            have rs3 := cell_regrown cs3
            clear cs0 cs1 cs2 cs3
            have vu := unhide Hu
            obtain ⟨cu0, cu1, cu2, cu3⟩ := vu
            have ru0 := cell_regrown cu0
            have ru1 := cell_regrown cu1
            have ru2 := cell_regrown cu2
            have ru3 := cell_regrown cu3
            clear cu0 cu1 cu2 cu3
            have vx := unhide Hx
            obtain ⟨cx0, cx1, cx2, cx3, cx4⟩ := vx
            have rx0 := cell_regrown cx0
            have rx1 := cell_regrown cx1
            have rx2 := cell_regrown cx2
            have rx3 := cell_regrown cx3
            have rx4 := cell_regrown cx4
            clear cx0 cx1 cx2 cx3 cx4
            have vp := unhide Hp
            obtain ⟨cp0, cp1, cp2⟩ := vp
            have rp0 := cell_regrown cp0
            have rp1 := cell_regrown cp1
            have rp2 := cell_regrown cp2
            clear cp0 cp1 cp2
            refine wp_region_quiet_below (by kernel_rfl) (by kernel_rfl) ?_
            repeat (go_big_quiet_step (first | (with_reducible exact Calls.regrown_of (unhide c1 _)) | (with_reducible exact Calls.regrown_of (unhide c2 _)) | (with_reducible exact Calls.regrown_of (unhide c3 _)) | (with_reducible exact Calls.regrown_of (unhide c4 _)) | (with_reducible exact Calls.regrown_of (unhide c5 _))))
            refine wpQuiet_nil ?_
            intro _ hw'
            obtain ⟨⟨dq, osq⟩, hw''⟩ := hw'
            subst hw''
            clear rs0 rs1 rs2 rs3 ru0 ru1 ru2 ru3 rx0 rx1 rx2 rx3 rx4 rp0 rp1 rp2
            have hx := below_regrown wc dq osq
            generalize grow (redrawn wc dq) osq = w19 at hx ⊢
            replace Hs := hide ((unhide Hs).kept (unhide Hs).lt hx)
            replace Hu := hide ((unhide Hu).kept (unhide Hu).lt hx)
            replace Hx := hide ((unhide Hx).kept hx)
            replace Hp := hide ((unhide Hp).kept (vlt (unhide Hp)) hx)
            replace HB := hide (below_call (unhide HB) hx)
            clear hx
            go_wp2_with fail
            go_ret
            exact ⟨rfl, unhide HB⟩
          · have hx5' : (x5 == 0) = false := by simp [hx5]
            have hx6 : (x5 != 0) = true := by simp [hx5]
            have hx7 : decide (x5 = 0) = false := by simp [hx5]
            have vx := unhide Hx
            obtain ⟨cx0, cx1, cx2, cx3, cx4⟩ := vx
            have rx0 := cell_regrown cx0
            have rx1 := cell_regrown cx1
            have rx2 := cell_regrown cx2
            have rx3 := cell_regrown cx3
            have rx4 := cell_regrown cx4
            clear cx0 cx1 cx2 cx3 cx4
            refine wp_region_quiet_below (by kernel_rfl) (by kernel_rfl) ?_
            repeat (go_big_quiet_step (first | (with_reducible exact Calls.regrown_of (unhide cB _))))
            refine wpQuiet_nil ?_
            intro _ hw'
            obtain ⟨⟨dq, osq⟩, hw''⟩ := hw'
            subst hw''
            clear rx0 rx1 rx2 rx3 rx4
            have hx := below_regrown wc dq osq
            generalize grow (redrawn wc dq) osq = w19 at hx ⊢
            replace Hs := hide ((unhide Hs).kept (unhide Hs).lt hx)
            replace Hu := hide ((unhide Hu).kept (unhide Hu).lt hx)
            replace Hx := hide ((unhide Hx).kept hx)
            replace Hp := hide ((unhide Hp).kept (vlt (unhide Hp)) hx)
            replace HB := hide (below_call (unhide HB) hx)
            clear hx
            go_wp2_with fail
            go_ret
            exact ⟨rfl, unhide HB⟩
end Go.Proofs.YtijpnnooenpjoaaDoor
