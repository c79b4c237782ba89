/- The law on directions, walked. -/
import Derived.Test.YtpjofdbeflhjnaaDraw7
import Derived.Test.YtpjofdbeflhjnaaDraw8
import Derived.Test.YtpjofdbeflhjnaaDraw9
import Derived.Test.YtpjofdbeflhjnaaDraw10
import Derived.Test.YtpjofdbeflhjnaaVecG
import Derived.Test.YtpjofdbeflhjnaaVecH
import Derived.Test.YtpjofdbeflhjnaaVecL
import Derived.Lib.QuietBelow
import Derived.BigQuiet
namespace Go.Proofs.Ytpjofdbeflhjnaa
open Go.RowKit Go.Sort
set_option linter.unusedVariables false

theorem Row.belows {w w1 : World} {a : Option Addr} {len : Nat} (h : Row w a len w.heap.size) (hB : Below w.heap.size w w1) : Row w1 a len w1.heap.size := h.up hB.size hB.block
theorem VecAt.more {w : World} {b : Nat} {x y z : Int} (h : VecAt w b x y z) (o : Obj) : VecAt (w.alloc o) b x y z := h.alloc (vlt h) o
theorem belowMore {w w1 : World} (h : Below w.heap.size w w1) (o : Obj) : Below w.heap.size w (w1.alloc o) := h.alloc h.size o

theorem eqB_self (x y z : Int) : eqB x y z x y z = true := by simp [eqB]

set_option maxHeartbeats 4000000 in
set_option maxRecDepth 100000 in
theorem fnVec_any (a0 a1' : Option Addr) (len0 cap0 len1 cap1 : Nat) (w : World) (h0 : len0 ≤ 1048576) (h1 : len1 ≤ 1048576) (r0 : Row w a0 len0 w.heap.size) (r1 : Row w a1' len1 w.heap.size) :
    Calls Try.prog 4 #[.slice a0 len0 cap0, .slice a1' len1 cap1] w fun e w' => e = .returned (.bool true) ∧ Below w.heap.size w w' := by
  have R0 := hide r0
  have R1 := hide r1
  clear r0 r1
  have hb0 : ¬ (1048576 : Int) < (len0 : Int) := by omega
  have hb1 : ¬ (1048576 : Int) < (len1 : Int) := by omega
  have HB := hide (Below.refl w.heap.size w)
  go_enter Try.func4, Try.ntmps4
  go_wp2_with fail
  refine (drawDot_any a0 len0 cap0 _ h0 ((unhide R0).belows (unhide HB))).mono ?_
  rintro e w1 ⟨a1, a2, a3, b1, b2, b3, rfl, hx⟩
  replace HB := hide (below_call (unhide HB) hx)
  clear hx
  have Ha := hide (VecAt.more (by simpa using vecAt_new w1 a1 a2 a3 35 : VecAt (w1.alloc (.cells #[.int .i64 a1, .int .i64 a2, .int .i64 a3] 35)) (w1.heap.size) a1 a2 a3) (.cells #[.int .i64 b1, .int .i64 b2, .int .i64 b3] 35))
  have Hb := hide (by simpa using vecAt_new (w1.alloc (.cells #[.int .i64 a1, .int .i64 a2, .int .i64 a3] 35)) b1 b2 b3 35 : VecAt ((w1.alloc (.cells #[.int .i64 a1, .int .i64 a2, .int .i64 a3] 35)).alloc (.cells #[.int .i64 b1, .int .i64 b2, .int .i64 b3] 35)) (w1.heap.size + 1) b1 b2 b3)
  replace HB := hide (belowMore (belowMore (unhide HB) (.cells #[.int .i64 a1, .int .i64 a2, .int .i64 a3] 35)) (.cells #[.int .i64 b1, .int .i64 b2, .int .i64 b3] 35))
  go_wp2_with fail
  generalize ((w1.alloc (.cells #[.int .i64 a1, .int .i64 a2, .int .i64 a3] 35)).alloc (.cells #[.int .i64 b1, .int .i64 b2, .int .i64 b3] 35)) = w2 at HB Ha Hb ⊢
  generalize w1.heap.size = k1 at Ha Hb ⊢
  refine (drawPrime_any a1' len1 cap1 _ h1 ((unhide R1).belows (unhide HB))).mono ?_
  rintro e w3 ⟨p1, p2, p3, rfl, hx⟩
  replace Ha := hide ((unhide Ha).kept (vlt (unhide Ha)) hx)
  replace Hb := hide ((unhide Hb).kept (vlt (unhide Hb)) hx)
  replace HB := hide (below_call (unhide HB) hx)
  clear hx
  replace Ha := hide (VecAt.more (unhide Ha) (.cells #[.int .i64 p1, .int .i64 p2, .int .i64 p3] 35))
  replace Hb := hide (VecAt.more (unhide Hb) (.cells #[.int .i64 p1, .int .i64 p2, .int .i64 p3] 35))
  have Hp := hide (by simpa using vecAt_new w3 p1 p2 p3 35 : VecAt (w3.alloc (.cells #[.int .i64 p1, .int .i64 p2, .int .i64 p3] 35)) (w3.heap.size) p1 p2 p3)
  replace HB := hide (belowMore (unhide HB) (.cells #[.int .i64 p1, .int .i64 p2, .int .i64 p3] 35))
  go_wp2_with fail
  generalize (w3.alloc (.cells #[.int .i64 p1, .int .i64 p2, .int .i64 p3] 35)) = w4 at HB Ha Hb Hp ⊢
  generalize w3.heap.size = k2 at Hp ⊢
  refine (drawSame_any a0 len0 cap0 _ h0 ((unhide R0).belows (unhide HB))).mono ?_
  rintro e w5 ⟨s1, s2, s3, t1, t2, t3, rfl, hx⟩
  replace Ha := hide ((unhide Ha).kept (vlt (unhide Ha)) hx)
  replace Hb := hide ((unhide Hb).kept (vlt (unhide Hb)) hx)
  replace Hp := hide ((unhide Hp).kept (vlt (unhide Hp)) hx)
  replace HB := hide (below_call (unhide HB) hx)
  clear hx
  replace Ha := hide (VecAt.more (VecAt.more (unhide Ha) (.cells #[.int .i64 s1, .int .i64 s2, .int .i64 s3] 35)) (.cells #[.int .i64 t1, .int .i64 t2, .int .i64 t3] 35))
  replace Hb := hide (VecAt.more (VecAt.more (unhide Hb) (.cells #[.int .i64 s1, .int .i64 s2, .int .i64 s3] 35)) (.cells #[.int .i64 t1, .int .i64 t2, .int .i64 t3] 35))
  replace Hp := hide (VecAt.more (VecAt.more (unhide Hp) (.cells #[.int .i64 s1, .int .i64 s2, .int .i64 s3] 35)) (.cells #[.int .i64 t1, .int .i64 t2, .int .i64 t3] 35))
  have Hs := hide (VecAt.more (by simpa using vecAt_new w5 s1 s2 s3 35 : VecAt (w5.alloc (.cells #[.int .i64 s1, .int .i64 s2, .int .i64 s3] 35)) (w5.heap.size) s1 s2 s3) (.cells #[.int .i64 t1, .int .i64 t2, .int .i64 t3] 35))
  have Ht := hide (by simpa using vecAt_new (w5.alloc (.cells #[.int .i64 s1, .int .i64 s2, .int .i64 s3] 35)) t1 t2 t3 35 : VecAt ((w5.alloc (.cells #[.int .i64 s1, .int .i64 s2, .int .i64 s3] 35)).alloc (.cells #[.int .i64 t1, .int .i64 t2, .int .i64 t3] 35)) (w5.heap.size + 1) t1 t2 t3)
  replace HB := hide (belowMore (belowMore (unhide HB) (.cells #[.int .i64 s1, .int .i64 s2, .int .i64 s3] 35)) (.cells #[.int .i64 t1, .int .i64 t2, .int .i64 t3] 35))
  go_wp2_with fail
  generalize ((w5.alloc (.cells #[.int .i64 s1, .int .i64 s2, .int .i64 s3] 35)).alloc (.cells #[.int .i64 t1, .int .i64 t2, .int .i64 t3] 35)) = w6 at HB Ha Hb Hp Hs Ht ⊢
  generalize w5.heap.size = k3 at Hs Ht ⊢
  refine (drawCos_any a1' len1 cap1 _ h1 ((unhide R1).belows (unhide HB))).mono ?_
  rintro e w7 ⟨c1, c2, c3, d1, d2, d3, m1, m2, m3, n1, n2, n3, rfl, hx⟩
  replace Ha := hide ((unhide Ha).kept (vlt (unhide Ha)) hx)
  replace Hb := hide ((unhide Hb).kept (vlt (unhide Hb)) hx)
  replace Hp := hide ((unhide Hp).kept (vlt (unhide Hp)) hx)
  replace Hs := hide ((unhide Hs).kept (vlt (unhide Hs)) hx)
  replace Ht := hide ((unhide Ht).kept (vlt (unhide Ht)) hx)
  replace HB := hide (below_call (unhide HB) hx)
  clear hx
  replace Ha := hide (VecAt.more (VecAt.more (VecAt.more (VecAt.more (unhide Ha) (.cells #[.int .i64 c1, .int .i64 c2, .int .i64 c3] 35)) (.cells #[.int .i64 d1, .int .i64 d2, .int .i64 d3] 35)) (.cells #[.int .i64 m1, .int .i64 m2, .int .i64 m3] 35)) (.cells #[.int .i64 n1, .int .i64 n2, .int .i64 n3] 35))
  replace Hb := hide (VecAt.more (VecAt.more (VecAt.more (VecAt.more (unhide Hb) (.cells #[.int .i64 c1, .int .i64 c2, .int .i64 c3] 35)) (.cells #[.int .i64 d1, .int .i64 d2, .int .i64 d3] 35)) (.cells #[.int .i64 m1, .int .i64 m2, .int .i64 m3] 35)) (.cells #[.int .i64 n1, .int .i64 n2, .int .i64 n3] 35))
  replace Hp := hide (VecAt.more (VecAt.more (VecAt.more (VecAt.more (unhide Hp) (.cells #[.int .i64 c1, .int .i64 c2, .int .i64 c3] 35)) (.cells #[.int .i64 d1, .int .i64 d2, .int .i64 d3] 35)) (.cells #[.int .i64 m1, .int .i64 m2, .int .i64 m3] 35)) (.cells #[.int .i64 n1, .int .i64 n2, .int .i64 n3] 35))
  replace Hs := hide (VecAt.more (VecAt.more (VecAt.more (VecAt.more (unhide Hs) (.cells #[.int .i64 c1, .int .i64 c2, .int .i64 c3] 35)) (.cells #[.int .i64 d1, .int .i64 d2, .int .i64 d3] 35)) (.cells #[.int .i64 m1, .int .i64 m2, .int .i64 m3] 35)) (.cells #[.int .i64 n1, .int .i64 n2, .int .i64 n3] 35))
  replace Ht := hide (VecAt.more (VecAt.more (VecAt.more (VecAt.more (unhide Ht) (.cells #[.int .i64 c1, .int .i64 c2, .int .i64 c3] 35)) (.cells #[.int .i64 d1, .int .i64 d2, .int .i64 d3] 35)) (.cells #[.int .i64 m1, .int .i64 m2, .int .i64 m3] 35)) (.cells #[.int .i64 n1, .int .i64 n2, .int .i64 n3] 35))
  have Hc := hide (VecAt.more (VecAt.more (VecAt.more (by simpa using vecAt_new w7 c1 c2 c3 35 : VecAt (w7.alloc (.cells #[.int .i64 c1, .int .i64 c2, .int .i64 c3] 35)) (w7.heap.size) c1 c2 c3) (.cells #[.int .i64 d1, .int .i64 d2, .int .i64 d3] 35)) (.cells #[.int .i64 m1, .int .i64 m2, .int .i64 m3] 35)) (.cells #[.int .i64 n1, .int .i64 n2, .int .i64 n3] 35))
  have Hd := hide (VecAt.more (VecAt.more (by simpa using vecAt_new (w7.alloc (.cells #[.int .i64 c1, .int .i64 c2, .int .i64 c3] 35)) d1 d2 d3 35 : VecAt ((w7.alloc (.cells #[.int .i64 c1, .int .i64 c2, .int .i64 c3] 35)).alloc (.cells #[.int .i64 d1, .int .i64 d2, .int .i64 d3] 35)) (w7.heap.size + 1) d1 d2 d3) (.cells #[.int .i64 m1, .int .i64 m2, .int .i64 m3] 35)) (.cells #[.int .i64 n1, .int .i64 n2, .int .i64 n3] 35))
  have Hm := hide (VecAt.more (by simpa using vecAt_new ((w7.alloc (.cells #[.int .i64 c1, .int .i64 c2, .int .i64 c3] 35)).alloc (.cells #[.int .i64 d1, .int .i64 d2, .int .i64 d3] 35)) m1 m2 m3 35 : VecAt (((w7.alloc (.cells #[.int .i64 c1, .int .i64 c2, .int .i64 c3] 35)).alloc (.cells #[.int .i64 d1, .int .i64 d2, .int .i64 d3] 35)).alloc (.cells #[.int .i64 m1, .int .i64 m2, .int .i64 m3] 35)) (w7.heap.size + 1 + 1) m1 m2 m3) (.cells #[.int .i64 n1, .int .i64 n2, .int .i64 n3] 35))
  have Hn := hide (by simpa using vecAt_new (((w7.alloc (.cells #[.int .i64 c1, .int .i64 c2, .int .i64 c3] 35)).alloc (.cells #[.int .i64 d1, .int .i64 d2, .int .i64 d3] 35)).alloc (.cells #[.int .i64 m1, .int .i64 m2, .int .i64 m3] 35)) n1 n2 n3 35 : VecAt ((((w7.alloc (.cells #[.int .i64 c1, .int .i64 c2, .int .i64 c3] 35)).alloc (.cells #[.int .i64 d1, .int .i64 d2, .int .i64 d3] 35)).alloc (.cells #[.int .i64 m1, .int .i64 m2, .int .i64 m3] 35)).alloc (.cells #[.int .i64 n1, .int .i64 n2, .int .i64 n3] 35)) (w7.heap.size + 1 + 1 + 1) n1 n2 n3)
  replace HB := hide (belowMore (belowMore (belowMore (belowMore (unhide HB) (.cells #[.int .i64 c1, .int .i64 c2, .int .i64 c3] 35)) (.cells #[.int .i64 d1, .int .i64 d2, .int .i64 d3] 35)) (.cells #[.int .i64 m1, .int .i64 m2, .int .i64 m3] 35)) (.cells #[.int .i64 n1, .int .i64 n2, .int .i64 n3] 35))
  go_wp2_with fail
  generalize ((((w7.alloc (.cells #[.int .i64 c1, .int .i64 c2, .int .i64 c3] 35)).alloc (.cells #[.int .i64 d1, .int .i64 d2, .int .i64 d3] 35)).alloc (.cells #[.int .i64 m1, .int .i64 m2, .int .i64 m3] 35)).alloc (.cells #[.int .i64 n1, .int .i64 n2, .int .i64 n3] 35)) = w8 at HB Ha Hb Hp Hs Ht Hc Hd Hm Hn ⊢
  generalize w7.heap.size = k4 at Hc Hd Hm Hn ⊢
  refine (drawDet_any a1' len1 cap1 _ h1 ((unhide R1).belows (unhide HB))).mono ?_
  rintro e w9 ⟨x1, x2, x3, y1, y2, y3, z1, z2, z3, rfl, hx⟩
  replace Ha := hide ((unhide Ha).kept (vlt (unhide Ha)) hx)
  replace Hb := hide ((unhide Hb).kept (vlt (unhide Hb)) hx)
  replace Hp := hide ((unhide Hp).kept (vlt (unhide Hp)) hx)
  replace Hs := hide ((unhide Hs).kept (vlt (unhide Hs)) hx)
  replace Ht := hide ((unhide Ht).kept (vlt (unhide Ht)) hx)
  replace Hc := hide ((unhide Hc).kept (vlt (unhide Hc)) hx)
  replace Hd := hide ((unhide Hd).kept (vlt (unhide Hd)) hx)
  replace Hm := hide ((unhide Hm).kept (vlt (unhide Hm)) hx)
  replace Hn := hide ((unhide Hn).kept (vlt (unhide Hn)) hx)
  replace HB := hide (below_call (unhide HB) hx)
  clear hx
  replace Ha := hide (VecAt.more (VecAt.more (VecAt.more (unhide Ha) (.cells #[.int .i64 x1, .int .i64 x2, .int .i64 x3] 35)) (.cells #[.int .i64 y1, .int .i64 y2, .int .i64 y3] 35)) (.cells #[.int .i64 z1, .int .i64 z2, .int .i64 z3] 35))
  replace Hb := hide (VecAt.more (VecAt.more (VecAt.more (unhide Hb) (.cells #[.int .i64 x1, .int .i64 x2, .int .i64 x3] 35)) (.cells #[.int .i64 y1, .int .i64 y2, .int .i64 y3] 35)) (.cells #[.int .i64 z1, .int .i64 z2, .int .i64 z3] 35))
  replace Hp := hide (VecAt.more (VecAt.more (VecAt.more (unhide Hp) (.cells #[.int .i64 x1, .int .i64 x2, .int .i64 x3] 35)) (.cells #[.int .i64 y1, .int .i64 y2, .int .i64 y3] 35)) (.cells #[.int .i64 z1, .int .i64 z2, .int .i64 z3] 35))
  replace Hs := hide (VecAt.more (VecAt.more (VecAt.more (unhide Hs) (.cells #[.int .i64 x1, .int .i64 x2, .int .i64 x3] 35)) (.cells #[.int .i64 y1, .int .i64 y2, .int .i64 y3] 35)) (.cells #[.int .i64 z1, .int .i64 z2, .int .i64 z3] 35))
  replace Ht := hide (VecAt.more (VecAt.more (VecAt.more (unhide Ht) (.cells #[.int .i64 x1, .int .i64 x2, .int .i64 x3] 35)) (.cells #[.int .i64 y1, .int .i64 y2, .int .i64 y3] 35)) (.cells #[.int .i64 z1, .int .i64 z2, .int .i64 z3] 35))
  replace Hc := hide (VecAt.more (VecAt.more (VecAt.more (unhide Hc) (.cells #[.int .i64 x1, .int .i64 x2, .int .i64 x3] 35)) (.cells #[.int .i64 y1, .int .i64 y2, .int .i64 y3] 35)) (.cells #[.int .i64 z1, .int .i64 z2, .int .i64 z3] 35))
  replace Hd := hide (VecAt.more (VecAt.more (VecAt.more (unhide Hd) (.cells #[.int .i64 x1, .int .i64 x2, .int .i64 x3] 35)) (.cells #[.int .i64 y1, .int .i64 y2, .int .i64 y3] 35)) (.cells #[.int .i64 z1, .int .i64 z2, .int .i64 z3] 35))
  replace Hm := hide (VecAt.more (VecAt.more (VecAt.more (unhide Hm) (.cells #[.int .i64 x1, .int .i64 x2, .int .i64 x3] 35)) (.cells #[.int .i64 y1, .int .i64 y2, .int .i64 y3] 35)) (.cells #[.int .i64 z1, .int .i64 z2, .int .i64 z3] 35))
  replace Hn := hide (VecAt.more (VecAt.more (VecAt.more (unhide Hn) (.cells #[.int .i64 x1, .int .i64 x2, .int .i64 x3] 35)) (.cells #[.int .i64 y1, .int .i64 y2, .int .i64 y3] 35)) (.cells #[.int .i64 z1, .int .i64 z2, .int .i64 z3] 35))
  have Hx := hide (VecAt.more (VecAt.more (by simpa using vecAt_new w9 x1 x2 x3 35 : VecAt (w9.alloc (.cells #[.int .i64 x1, .int .i64 x2, .int .i64 x3] 35)) (w9.heap.size) x1 x2 x3) (.cells #[.int .i64 y1, .int .i64 y2, .int .i64 y3] 35)) (.cells #[.int .i64 z1, .int .i64 z2, .int .i64 z3] 35))
  have Hy := hide (VecAt.more (by simpa using vecAt_new (w9.alloc (.cells #[.int .i64 x1, .int .i64 x2, .int .i64 x3] 35)) y1 y2 y3 35 : VecAt ((w9.alloc (.cells #[.int .i64 x1, .int .i64 x2, .int .i64 x3] 35)).alloc (.cells #[.int .i64 y1, .int .i64 y2, .int .i64 y3] 35)) (w9.heap.size + 1) y1 y2 y3) (.cells #[.int .i64 z1, .int .i64 z2, .int .i64 z3] 35))
  have Hz := hide (by simpa using vecAt_new ((w9.alloc (.cells #[.int .i64 x1, .int .i64 x2, .int .i64 x3] 35)).alloc (.cells #[.int .i64 y1, .int .i64 y2, .int .i64 y3] 35)) z1 z2 z3 35 : VecAt (((w9.alloc (.cells #[.int .i64 x1, .int .i64 x2, .int .i64 x3] 35)).alloc (.cells #[.int .i64 y1, .int .i64 y2, .int .i64 y3] 35)).alloc (.cells #[.int .i64 z1, .int .i64 z2, .int .i64 z3] 35)) (w9.heap.size + 1 + 1) z1 z2 z3)
  replace HB := hide (belowMore (belowMore (belowMore (unhide HB) (.cells #[.int .i64 x1, .int .i64 x2, .int .i64 x3] 35)) (.cells #[.int .i64 y1, .int .i64 y2, .int .i64 y3] 35)) (.cells #[.int .i64 z1, .int .i64 z2, .int .i64 z3] 35))
  go_wp2_with fail
  generalize (((w9.alloc (.cells #[.int .i64 x1, .int .i64 x2, .int .i64 x3] 35)).alloc (.cells #[.int .i64 y1, .int .i64 y2, .int .i64 y3] 35)).alloc (.cells #[.int .i64 z1, .int .i64 z2, .int .i64 z3] 35)) = w10 at HB Ha Hb Hp Hs Ht Hc Hd Hm Hn Hx Hy Hz ⊢
  generalize w9.heap.size = k5 at Hx Hy Hz ⊢
  refine (drawVecRight_any a0 len0 cap0 _ h0 ((unhide R0).belows (unhide HB))).mono ?_
  rintro e w11 ⟨q1, q2, q3, rfl, hx⟩
  replace Ha := hide ((unhide Ha).kept (vlt (unhide Ha)) hx)
  replace Hb := hide ((unhide Hb).kept (vlt (unhide Hb)) hx)
  replace Hp := hide ((unhide Hp).kept (vlt (unhide Hp)) hx)
  replace Hs := hide ((unhide Hs).kept (vlt (unhide Hs)) hx)
  replace Ht := hide ((unhide Ht).kept (vlt (unhide Ht)) hx)
  replace Hc := hide ((unhide Hc).kept (vlt (unhide Hc)) hx)
  replace Hd := hide ((unhide Hd).kept (vlt (unhide Hd)) hx)
  replace Hm := hide ((unhide Hm).kept (vlt (unhide Hm)) hx)
  replace Hn := hide ((unhide Hn).kept (vlt (unhide Hn)) hx)
  replace Hx := hide ((unhide Hx).kept (vlt (unhide Hx)) hx)
  replace Hy := hide ((unhide Hy).kept (vlt (unhide Hy)) hx)
  replace Hz := hide ((unhide Hz).kept (vlt (unhide Hz)) hx)
  replace HB := hide (below_call (unhide HB) hx)
  clear hx
  replace Ha := hide (VecAt.more (unhide Ha) (.cells #[.int .i64 q1, .int .i64 q2, .int .i64 q3] 35))
  replace Hb := hide (VecAt.more (unhide Hb) (.cells #[.int .i64 q1, .int .i64 q2, .int .i64 q3] 35))
  replace Hp := hide (VecAt.more (unhide Hp) (.cells #[.int .i64 q1, .int .i64 q2, .int .i64 q3] 35))
  replace Hs := hide (VecAt.more (unhide Hs) (.cells #[.int .i64 q1, .int .i64 q2, .int .i64 q3] 35))
  replace Ht := hide (VecAt.more (unhide Ht) (.cells #[.int .i64 q1, .int .i64 q2, .int .i64 q3] 35))
  replace Hc := hide (VecAt.more (unhide Hc) (.cells #[.int .i64 q1, .int .i64 q2, .int .i64 q3] 35))
  replace Hd := hide (VecAt.more (unhide Hd) (.cells #[.int .i64 q1, .int .i64 q2, .int .i64 q3] 35))
  replace Hm := hide (VecAt.more (unhide Hm) (.cells #[.int .i64 q1, .int .i64 q2, .int .i64 q3] 35))
  replace Hn := hide (VecAt.more (unhide Hn) (.cells #[.int .i64 q1, .int .i64 q2, .int .i64 q3] 35))
  replace Hx := hide (VecAt.more (unhide Hx) (.cells #[.int .i64 q1, .int .i64 q2, .int .i64 q3] 35))
  replace Hy := hide (VecAt.more (unhide Hy) (.cells #[.int .i64 q1, .int .i64 q2, .int .i64 q3] 35))
  replace Hz := hide (VecAt.more (unhide Hz) (.cells #[.int .i64 q1, .int .i64 q2, .int .i64 q3] 35))
  have Hq := hide (by simpa using vecAt_new w11 q1 q2 q3 35 : VecAt (w11.alloc (.cells #[.int .i64 q1, .int .i64 q2, .int .i64 q3] 35)) (w11.heap.size) q1 q2 q3)
  replace HB := hide (belowMore (unhide HB) (.cells #[.int .i64 q1, .int .i64 q2, .int .i64 q3] 35))
  go_wp2_with fail
  generalize (w11.alloc (.cells #[.int .i64 q1, .int .i64 q2, .int .i64 q3] 35)) = w12 at HB Ha Hb Hp Hs Ht Hc Hd Hm Hn Hx Hy Hz Hq ⊢
  generalize w11.heap.size = k6 at Hq ⊢
  refine (drawCross_any a0 len0 cap0 _ h0 ((unhide R0).belows (unhide HB))).mono ?_
  rintro e w13 ⟨u1, u2, u3, v1, v2, v3, rfl, hx⟩
  replace Ha := hide ((unhide Ha).kept (vlt (unhide Ha)) hx)
  replace Hb := hide ((unhide Hb).kept (vlt (unhide Hb)) hx)
  replace Hp := hide ((unhide Hp).kept (vlt (unhide Hp)) hx)
  replace Hs := hide ((unhide Hs).kept (vlt (unhide Hs)) hx)
  replace Ht := hide ((unhide Ht).kept (vlt (unhide Ht)) hx)
  replace Hc := hide ((unhide Hc).kept (vlt (unhide Hc)) hx)
  replace Hd := hide ((unhide Hd).kept (vlt (unhide Hd)) hx)
  replace Hm := hide ((unhide Hm).kept (vlt (unhide Hm)) hx)
  replace Hn := hide ((unhide Hn).kept (vlt (unhide Hn)) hx)
  replace Hx := hide ((unhide Hx).kept (vlt (unhide Hx)) hx)
  replace Hy := hide ((unhide Hy).kept (vlt (unhide Hy)) hx)
  replace Hz := hide ((unhide Hz).kept (vlt (unhide Hz)) hx)
  replace Hq := hide ((unhide Hq).kept (vlt (unhide Hq)) hx)
  replace HB := hide (below_call (unhide HB) hx)
  clear hx
  replace Ha := hide (VecAt.more (VecAt.more (unhide Ha) (.cells #[.int .i64 u1, .int .i64 u2, .int .i64 u3] 35)) (.cells #[.int .i64 v1, .int .i64 v2, .int .i64 v3] 35))
  replace Hb := hide (VecAt.more (VecAt.more (unhide Hb) (.cells #[.int .i64 u1, .int .i64 u2, .int .i64 u3] 35)) (.cells #[.int .i64 v1, .int .i64 v2, .int .i64 v3] 35))
  replace Hp := hide (VecAt.more (VecAt.more (unhide Hp) (.cells #[.int .i64 u1, .int .i64 u2, .int .i64 u3] 35)) (.cells #[.int .i64 v1, .int .i64 v2, .int .i64 v3] 35))
  replace Hs := hide (VecAt.more (VecAt.more (unhide Hs) (.cells #[.int .i64 u1, .int .i64 u2, .int .i64 u3] 35)) (.cells #[.int .i64 v1, .int .i64 v2, .int .i64 v3] 35))
  replace Ht := hide (VecAt.more (VecAt.more (unhide Ht) (.cells #[.int .i64 u1, .int .i64 u2, .int .i64 u3] 35)) (.cells #[.int .i64 v1, .int .i64 v2, .int .i64 v3] 35))
  replace Hc := hide (VecAt.more (VecAt.more (unhide Hc) (.cells #[.int .i64 u1, .int .i64 u2, .int .i64 u3] 35)) (.cells #[.int .i64 v1, .int .i64 v2, .int .i64 v3] 35))
  replace Hd := hide (VecAt.more (VecAt.more (unhide Hd) (.cells #[.int .i64 u1, .int .i64 u2, .int .i64 u3] 35)) (.cells #[.int .i64 v1, .int .i64 v2, .int .i64 v3] 35))
  replace Hm := hide (VecAt.more (VecAt.more (unhide Hm) (.cells #[.int .i64 u1, .int .i64 u2, .int .i64 u3] 35)) (.cells #[.int .i64 v1, .int .i64 v2, .int .i64 v3] 35))
  replace Hn := hide (VecAt.more (VecAt.more (unhide Hn) (.cells #[.int .i64 u1, .int .i64 u2, .int .i64 u3] 35)) (.cells #[.int .i64 v1, .int .i64 v2, .int .i64 v3] 35))
  replace Hx := hide (VecAt.more (VecAt.more (unhide Hx) (.cells #[.int .i64 u1, .int .i64 u2, .int .i64 u3] 35)) (.cells #[.int .i64 v1, .int .i64 v2, .int .i64 v3] 35))
  replace Hy := hide (VecAt.more (VecAt.more (unhide Hy) (.cells #[.int .i64 u1, .int .i64 u2, .int .i64 u3] 35)) (.cells #[.int .i64 v1, .int .i64 v2, .int .i64 v3] 35))
  replace Hz := hide (VecAt.more (VecAt.more (unhide Hz) (.cells #[.int .i64 u1, .int .i64 u2, .int .i64 u3] 35)) (.cells #[.int .i64 v1, .int .i64 v2, .int .i64 v3] 35))
  replace Hq := hide (VecAt.more (VecAt.more (unhide Hq) (.cells #[.int .i64 u1, .int .i64 u2, .int .i64 u3] 35)) (.cells #[.int .i64 v1, .int .i64 v2, .int .i64 v3] 35))
  have Hu := hide (VecAt.more (by simpa using vecAt_new w13 u1 u2 u3 35 : VecAt (w13.alloc (.cells #[.int .i64 u1, .int .i64 u2, .int .i64 u3] 35)) (w13.heap.size) u1 u2 u3) (.cells #[.int .i64 v1, .int .i64 v2, .int .i64 v3] 35))
  have Hv := hide (by simpa using vecAt_new (w13.alloc (.cells #[.int .i64 u1, .int .i64 u2, .int .i64 u3] 35)) v1 v2 v3 35 : VecAt ((w13.alloc (.cells #[.int .i64 u1, .int .i64 u2, .int .i64 u3] 35)).alloc (.cells #[.int .i64 v1, .int .i64 v2, .int .i64 v3] 35)) (w13.heap.size + 1) v1 v2 v3)
  replace HB := hide (belowMore (belowMore (unhide HB) (.cells #[.int .i64 u1, .int .i64 u2, .int .i64 u3] 35)) (.cells #[.int .i64 v1, .int .i64 v2, .int .i64 v3] 35))
  have vc := unhide Hc
  obtain ⟨cc0, cc1, cc2⟩ := vc
  have vd := unhide Hd
  obtain ⟨cd0, cd1, cd2⟩ := vd
  have vm := unhide Hm
  obtain ⟨cm0, cm1, cm2⟩ := vm
  have vn := unhide Hn
  obtain ⟨cn0, cn1, cn2⟩ := vn
  go_wp2_with fail
  clear cc0 cc1 cc2 cd0 cd1 cd2 cm0 cm1 cm2 cn0 cn1 cn2
  generalize ((w13.alloc (.cells #[.int .i64 u1, .int .i64 u2, .int .i64 u3] 35)).alloc (.cells #[.int .i64 v1, .int .i64 v2, .int .i64 v3] 35)) = w14 at HB Ha Hb Hp Hs Ht Hc Hd Hm Hn Hx Hy Hz Hq Hu Hv ⊢
  generalize w13.heap.size = k7 at Hu Hv ⊢
  refine (cosCmp_any c1 c2 c3 d1 d2 d3 m1 m2 m3 n1 n2 n3 _).mono ?_
  rintro e w15 ⟨rfl, hx⟩
  replace Ha := hide ((unhide Ha).kept (vlt (unhide Ha)) hx)
  replace Hb := hide ((unhide Hb).kept (vlt (unhide Hb)) hx)
  replace Hp := hide ((unhide Hp).kept (vlt (unhide Hp)) hx)
  replace Hs := hide ((unhide Hs).kept (vlt (unhide Hs)) hx)
  replace Ht := hide ((unhide Ht).kept (vlt (unhide Ht)) hx)
  replace Hc := hide ((unhide Hc).kept (vlt (unhide Hc)) hx)
  replace Hd := hide ((unhide Hd).kept (vlt (unhide Hd)) hx)
  replace Hm := hide ((unhide Hm).kept (vlt (unhide Hm)) hx)
  replace Hn := hide ((unhide Hn).kept (vlt (unhide Hn)) hx)
  replace Hx := hide ((unhide Hx).kept (vlt (unhide Hx)) hx)
  replace Hy := hide ((unhide Hy).kept (vlt (unhide Hy)) hx)
  replace Hz := hide ((unhide Hz).kept (vlt (unhide Hz)) hx)
  replace Hq := hide ((unhide Hq).kept (vlt (unhide Hq)) hx)
  replace Hu := hide ((unhide Hu).kept (vlt (unhide Hu)) hx)
  replace Hv := hide ((unhide Hv).kept (vlt (unhide Hv)) hx)
  replace HB := hide (below_call (unhide HB) hx)
  clear hx
  go_wp2_with fail
  have nq1 := fun w => (neq_vec (crI (rightB u1 u2 u3 && rightB v1 v2 v3) u2 u3 v2 v3) (crI (rightB u1 u2 u3 && rightB v1 v2 v3) u3 u1 v3 v1) (crI (rightB u1 u2 u3 && rightB v1 v2 v3) u1 u2 v1 v2) _ _ _ w).trans (by rw [eqB_self])
  have nq2 := fun w => (neq_vec (prI (rightB p1 p2 p3) (gI p1 p2 p3) p1) (prI (rightB p1 p2 p3) (gI p1 p2 p3) p2) (prI (rightB p1 p2 p3) (gI p1 p2 p3) p3) _ _ _ w).trans (by rw [eqB_self])
  have va := unhide Ha
  obtain ⟨ca0, ca1, ca2⟩ := va
  have ra0 := cell_regrown ca0
  have ra1 := cell_regrown ca1
  have ra2 := cell_regrown ca2
  clear ca0 ca1 ca2
  have vb := unhide Hb
  obtain ⟨cb0, cb1, cb2⟩ := vb
  have rb0 := cell_regrown cb0
  have rb1 := cell_regrown cb1
  have rb2 := cell_regrown cb2
  clear cb0 cb1 cb2
  have vp := unhide Hp
  obtain ⟨cp0, cp1, cp2⟩ := vp
  have rp0 := cell_regrown cp0
  have rp1 := cell_regrown cp1
  have rp2 := cell_regrown cp2
  clear cp0 cp1 cp2
  have vs := unhide Hs
  obtain ⟨cs0, cs1, cs2⟩ := vs
  have rs0 := cell_regrown cs0
  have rs1 := cell_regrown cs1
  have rs2 := cell_regrown cs2
  clear cs0 cs1 cs2
  have vt := unhide Ht
  obtain ⟨ct0, ct1, ct2⟩ := vt
  have rt0 := cell_regrown ct0
  have rt1 := cell_regrown ct1
  have rt2 := cell_regrown ct2
  clear ct0 ct1 ct2
  have vc := unhide Hc
  obtain ⟨cc0, cc1, cc2⟩ := vc
  have rc0 := cell_regrown cc0
  have rc1 := cell_regrown cc1
  have rc2 := cell_regrown cc2
  clear cc0 cc1 cc2
  have vd := unhide Hd
  obtain ⟨cd0, cd1, cd2⟩ := vd
  have rd0 := cell_regrown cd0
  have rd1 := cell_regrown cd1
  have rd2 := cell_regrown cd2
  clear cd0 cd1 cd2
  have vm := unhide Hm
  obtain ⟨cm0, cm1, cm2⟩ := vm
  have rm0 := cell_regrown cm0
  have rm1 := cell_regrown cm1
  have rm2 := cell_regrown cm2
  clear cm0 cm1 cm2
  have vn := unhide Hn
  obtain ⟨cn0, cn1, cn2⟩ := vn
  have rn0 := cell_regrown cn0
  have rn1 := cell_regrown cn1
  have rn2 := cell_regrown cn2
  clear cn0 cn1 cn2
  have vx := unhide Hx
  obtain ⟨cx0, cx1, cx2⟩ := vx
  have rx0 := cell_regrown cx0
  have rx1 := cell_regrown cx1
  have rx2 := cell_regrown cx2
  clear cx0 cx1 cx2
  have vy := unhide Hy
  obtain ⟨cy0, cy1, cy2⟩ := vy
  have ry0 := cell_regrown cy0
  have ry1 := cell_regrown cy1
  have ry2 := cell_regrown cy2
  clear cy0 cy1 cy2
  have vz := unhide Hz
  obtain ⟨cz0, cz1, cz2⟩ := vz
  have rz0 := cell_regrown cz0
  have rz1 := cell_regrown cz1
  have rz2 := cell_regrown cz2
  clear cz0 cz1 cz2
  have vq := unhide Hq
  obtain ⟨cq0, cq1, cq2⟩ := vq
  have rq0 := cell_regrown cq0
  have rq1 := cell_regrown cq1
  have rq2 := cell_regrown cq2
  clear cq0 cq1 cq2
  have vu := unhide Hu
  obtain ⟨cu0, cu1, cu2⟩ := vu
  have ru0 := cell_regrown cu0
  have ru1 := cell_regrown cu1
  have ru2 := cell_regrown cu2
  clear cu0 cu1 cu2
  have vv := unhide Hv
  obtain ⟨cv0, cv1, cv2⟩ := vv
  have rv0 := cell_regrown cv0
  have rv1 := cell_regrown cv1
  have rv2 := cell_regrown cv2
  clear cv0 cv1 cv2
  refine wp_region_quiet_below (by kernel_rfl) (by kernel_rfl) ?_
  repeat (quiet_step (first | (with_reducible exact Calls.regrown_of (dot_any a1 a2 a3 b1 b2 b3 _)) | (with_reducible exact Calls.regrown_of (specDot_any a1 a2 a3 b1 b2 b3 _)) | (with_reducible exact Calls.regrown_of (cross_any u1 u2 u3 v1 v2 v3 _)) | (with_reducible exact Calls.regrown_of (specCross_any u1 u2 u3 v1 v2 v3 _)) | (with_reducible exact Calls.regrown_of (det_any x1 x2 x3 y1 y2 y3 z1 z2 z3 _)) | (with_reducible exact Calls.regrown_of (specDet_any x1 x2 x3 y1 y2 y3 z1 z2 z3 _)) | (with_reducible exact Calls.regrown_of (prime_any p1 p2 p3 _)) | (with_reducible exact Calls.regrown_of (specPrime_any p1 p2 p3 _)) | (with_reducible exact Calls.regrown_of (sameWay_any s1 s2 s3 t1 t2 t3 _)) | (with_reducible exact Calls.regrown_of (specSame_any s1 s2 s3 t1 t2 t3 _)) | (with_reducible exact Calls.regrown_of (specCos_any c1 c2 c3 d1 d2 d3 m1 m2 m3 n1 n2 n3 _)) | (with_reducible exact Calls.regrown_of (vecRight_any q1 q2 q3 _)) | (with_reducible exact Calls.regrown_of (specRight_any q1 q2 q3 _))))
  refine wpQuiet_nil ?_
  intro _ hw'
  obtain ⟨⟨dq, osq⟩, hw''⟩ := hw'
  subst hw''
  clear ra0 ra1 ra2 rb0 rb1 rb2 rp0 rp1 rp2 rs0 rs1 rs2 rt0 rt1 rt2 rc0 rc1 rc2 rd0 rd1 rd2 rm0 rm1 rm2 rn0 rn1 rn2 rx0 rx1 rx2 ry0 ry1 ry2 rz0 rz1 rz2 rq0 rq1 rq2 ru0 ru1 ru2 rv0 rv1 rv2
  have hx := below_regrown w15 dq osq
  generalize grow (redrawn w15 dq) osq = w16 at hx ⊢
  replace Ha := hide ((unhide Ha).kept (vlt (unhide Ha)) hx)
  replace Hb := hide ((unhide Hb).kept (vlt (unhide Hb)) hx)
  replace Hp := hide ((unhide Hp).kept (vlt (unhide Hp)) hx)
  replace Hs := hide ((unhide Hs).kept (vlt (unhide Hs)) hx)
  replace Ht := hide ((unhide Ht).kept (vlt (unhide Ht)) hx)
  replace Hc := hide ((unhide Hc).kept (vlt (unhide Hc)) hx)
  replace Hd := hide ((unhide Hd).kept (vlt (unhide Hd)) hx)
  replace Hm := hide ((unhide Hm).kept (vlt (unhide Hm)) hx)
  replace Hn := hide ((unhide Hn).kept (vlt (unhide Hn)) hx)
  replace Hx := hide ((unhide Hx).kept (vlt (unhide Hx)) hx)
  replace Hy := hide ((unhide Hy).kept (vlt (unhide Hy)) hx)
  replace Hz := hide ((unhide Hz).kept (vlt (unhide Hz)) hx)
  replace Hq := hide ((unhide Hq).kept (vlt (unhide Hq)) hx)
  replace Hu := hide ((unhide Hu).kept (vlt (unhide Hu)) hx)
  replace Hv := hide ((unhide Hv).kept (vlt (unhide Hv)) hx)
  replace HB := hide (below_call (unhide HB) hx)
  clear hx
  clear nq1 nq2
  go_wp2_with fail
  have cA := fun W => (dot_any b1 b2 b3 a1 a2 a3 W).mono (fun e w' h => (⟨by rw [h.1, dotI_comm], h.2⟩ : e = .returned (.int .i64 (dotI a1 a2 a3 b1 b2 b3)) ∧ Below W.heap.size W w'))
  have cB := fun W => (det_any a1 a2 a3 b1 b2 b3 a1 a2 a3 W).mono (fun e w' h => (⟨by rw [h.1, detI_aba], h.2⟩ : e = .returned (.int .i64 0) ∧ Below W.heap.size W w'))
  have cC := fun W => (det_any a1 a2 a3 b1 b2 b3 b1 b2 b3 W).mono (fun e w' h => (⟨by rw [h.1, detI_abb], h.2⟩ : e = .returned (.int .i64 0) ∧ Below W.heap.size W w'))
  have cD := fun W => (cosCmp_any d1 d2 d3 c1 c2 c3 m1 m2 m3 n1 n2 n3 W).mono (fun e w' h => (⟨by rw [h.1, cosI_swap], h.2⟩ : e = .returned (.int .i64 (cosI c1 c2 c3 d1 d2 d3 m1 m2 m3 n1 n2 n3)) ∧ Below W.heap.size W w'))
  have cE := fun W => (cosCmp_any c1 c2 c3 d1 d2 d3 n1 n2 n3 m1 m2 m3 W).mono (fun e w' h => (⟨by rw [h.1, cosI_swap2], h.2⟩ : e = .returned (.int .i64 (cosI c1 c2 c3 d1 d2 d3 m1 m2 m3 n1 n2 n3)) ∧ Below W.heap.size W w'))
  have KA := hide cA
  have KB := hide cB
  have KC := hide cC
  have KD := hide cD
  have KE := hide cE
  clear cA cB cC cD cE
  have va := unhide Ha
  obtain ⟨ca0, ca1, ca2⟩ := va
  have ra0 := cell_regrown ca0
  have ra1 := cell_regrown ca1
  have ra2 := cell_regrown ca2
  clear ca0 ca1 ca2
  have vb := unhide Hb
  obtain ⟨cb0, cb1, cb2⟩ := vb
  have rb0 := cell_regrown cb0
  have rb1 := cell_regrown cb1
  have rb2 := cell_regrown cb2
  clear cb0 cb1 cb2
  have vc := unhide Hc
  obtain ⟨cc0, cc1, cc2⟩ := vc
  have rc0 := cell_regrown cc0
  have rc1 := cell_regrown cc1
  have rc2 := cell_regrown cc2
  clear cc0 cc1 cc2
  have vd := unhide Hd
  obtain ⟨cd0, cd1, cd2⟩ := vd
  have rd0 := cell_regrown cd0
  have rd1 := cell_regrown cd1
  have rd2 := cell_regrown cd2
  clear cd0 cd1 cd2
  have vm := unhide Hm
  obtain ⟨cm0, cm1, cm2⟩ := vm
  have rm0 := cell_regrown cm0
  have rm1 := cell_regrown cm1
  have rm2 := cell_regrown cm2
  clear cm0 cm1 cm2
  have vn := unhide Hn
  obtain ⟨cn0, cn1, cn2⟩ := vn
  have rn0 := cell_regrown cn0
  have rn1 := cell_regrown cn1
  have rn2 := cell_regrown cn2
  clear cn0 cn1 cn2
  refine wp_region_quiet_below (by kernel_rfl) (by kernel_rfl) ?_
  repeat (quiet_step (first | (with_reducible exact Calls.regrown_of (dot_any a1 a2 a3 b1 b2 b3 _)) | (with_reducible exact Calls.regrown_of (unhide KA _)) | (with_reducible exact Calls.regrown_of (unhide KB _)) | (with_reducible exact Calls.regrown_of (unhide KC _)) | (with_reducible exact Calls.regrown_of (unhide KD _)) | (with_reducible exact Calls.regrown_of (unhide KE _))))
  refine wpQuiet_nil ?_
  intro _ hw'
  obtain ⟨⟨dq, osq⟩, hw''⟩ := hw'
  subst hw''
  clear ra0 ra1 ra2 rb0 rb1 rb2 rc0 rc1 rc2 rd0 rd1 rd2 rm0 rm1 rm2 rn0 rn1 rn2
  have hx := below_regrown w16 dq osq
  generalize grow (redrawn w16 dq) osq = w17 at hx ⊢
  replace Ha := hide ((unhide Ha).kept (vlt (unhide Ha)) hx)
  replace Hb := hide ((unhide Hb).kept (vlt (unhide Hb)) hx)
  replace Hp := hide ((unhide Hp).kept (vlt (unhide Hp)) hx)
  replace Hs := hide ((unhide Hs).kept (vlt (unhide Hs)) hx)
  replace Ht := hide ((unhide Ht).kept (vlt (unhide Ht)) hx)
  replace Hc := hide ((unhide Hc).kept (vlt (unhide Hc)) hx)
  replace Hd := hide ((unhide Hd).kept (vlt (unhide Hd)) hx)
  replace Hm := hide ((unhide Hm).kept (vlt (unhide Hm)) hx)
  replace Hn := hide ((unhide Hn).kept (vlt (unhide Hn)) hx)
  replace Hx := hide ((unhide Hx).kept (vlt (unhide Hx)) hx)
  replace Hy := hide ((unhide Hy).kept (vlt (unhide Hy)) hx)
  replace Hz := hide ((unhide Hz).kept (vlt (unhide Hz)) hx)
  replace Hq := hide ((unhide Hq).kept (vlt (unhide Hq)) hx)
  replace Hu := hide ((unhide Hu).kept (vlt (unhide Hu)) hx)
  replace Hv := hide ((unhide Hv).kept (vlt (unhide Hv)) hx)
  replace HB := hide (below_call (unhide HB) hx)
  clear hx
  clear KA KB KC KD KE
  go_wp2_with fail
  clear Ha Hb Hp Ht Hc Hd Hn Hx Hy Hz Hq Hu Hv
  refine (lwAt_any a1' len1 cap1 0 20 _ h1 (by omega) (by omega) ((unhide R1).belows (unhide HB))).mono ?_
  rintro e w18 ⟨kk, rfl, kk0, kk1, kk2, hw⟩
  subst hw
  have hk20 : kk < 20 := kk1 (by omega)
  clear kk1 kk2
  have vs := unhide Hs
  obtain ⟨cs0, cs1, cs2⟩ := vs
  go_wp2_with fail
  clear cs0 cs1 cs2
  have hK1 : 1 ≤ 1 + kk := by omega
  have hK2 : 1 + kk ≤ 20 := by omega
  generalize 1 + kk = K at hK1 hK2 ⊢
  refine (specRight_any s1 s2 s3 _).mono ?_
  rintro e w19 ⟨rfl, hx⟩
  replace Hs := hide ((unhide Hs).kept (vlt (unhide Hs)) hx)
  replace Hm := hide ((unhide Hm).kept (vlt (unhide Hm)) hx)
  replace HB := hide (below_call (unhide HB) hx)
  clear hx
  cases hs : rightB s1 s2 s3
  · go_wp2_with fail
    go_ret
    exact ⟨rfl, unhide HB⟩
  · have hb := (rightB_iff.1 hs).1
    have E1 : Hid (wrap64 (K * s1) = K * s1) := hide (by have := mulB (A := 20) (B := 1000000) (a := K) (b := s1) (by omega) hb.1; exact wrap_id (by omega) (by omega))
    have E2 : Hid (wrap64 (K * s2) = K * s2) := hide (by have := mulB (A := 20) (B := 1000000) (a := K) (b := s2) (by omega) hb.2.1; exact wrap_id (by omega) (by omega))
    have E3 : Hid (wrap64 (K * s3) = K * s3) := hide (by have := mulB (A := 20) (B := 1000000) (a := K) (b := s3) (by omega) hb.2.2; exact wrap_id (by omega) (by omega))
    have M1 : Hid (wrap64 (-K * s1) = -K * s1) := hide (by have := mulB (A := 20) (B := 1000000) (a := -K) (b := s1) (by omega) hb.1; exact wrap_id (by omega) (by omega))
    have M2 : Hid (wrap64 (-K * s2) = -K * s2) := hide (by have := mulB (A := 20) (B := 1000000) (a := -K) (b := s2) (by omega) hb.2.1; exact wrap_id (by omega) (by omega))
    have M3 : Hid (wrap64 (-K * s3) = -K * s3) := hide (by have := mulB (A := 20) (B := 1000000) (a := -K) (b := s3) (by omega) hb.2.2; exact wrap_id (by omega) (by omega))
    clear hb
    have cT := hide (fun W => (lwTimes_any K s1 s2 s3 W).mono (fun e w' h => (⟨by rw [h.1, unhide E1, unhide E2, unhide E3], h.2⟩ : e = .returned (.agg #[.int .i64 (K * s1), .int .i64 (K * s2), .int .i64 (K * s3)]) ∧ Below W.heap.size W w')))
    have cN := hide (fun W => (lwTimes_any (-K) s1 s2 s3 W).mono (fun e w' h => (⟨by rw [h.1, unhide M1, unhide M2, unhide M3], h.2⟩ : e = .returned (.agg #[.int .i64 (-K * s1), .int .i64 (-K * s2), .int .i64 (-K * s3)]) ∧ Below W.heap.size W w')))
    have vs := unhide Hs
    obtain ⟨cs0, cs1, cs2⟩ := vs
    go_wp2_with fail
    clear cs0 cs1 cs2
    refine (unhide cT _).mono ?_
    rintro e w20 ⟨rfl, hx⟩
    replace Hs := hide ((unhide Hs).kept (vlt (unhide Hs)) hx)
    replace Hm := hide ((unhide Hm).kept (vlt (unhide Hm)) hx)
    replace HB := hide (below_call (unhide HB) hx)
    clear hx
    go_wp2_with fail
    refine (specRight_any (K * s1) (K * s2) (K * s3) _).mono ?_
    rintro e w21 ⟨rfl, hx⟩
    replace Hs := hide ((unhide Hs).kept (vlt (unhide Hs)) hx)
    replace Hm := hide ((unhide Hm).kept (vlt (unhide Hm)) hx)
    replace HB := hide (below_call (unhide HB) hx)
    clear hx
    cases ht : rightB (K * s1) (K * s2) (K * s3)
    · go_wp2_with fail
      go_ret
      exact ⟨rfl, unhide HB⟩
    · have cS := hide (fun W => (sameWay_any s1 s2 s3 (K * s1) (K * s2) (K * s3) W).mono (fun e w' h => (⟨by rw [h.1, sameB_mul (by omega) hs ht], h.2⟩ : e = .returned (.bool true) ∧ Below W.heap.size W w')))
      have cM := hide (fun W => (sameWay_any s1 s2 s3 (-K * s1) (-K * s2) (-K * s3) W).mono (fun e w' h => (⟨by rw [h.1, sameB_neg (by omega)], h.2⟩ : e = .returned (.bool false) ∧ Below W.heap.size W w')))
      have cC := hide (fun W => (cosCmp_any (K * s1) (K * s2) (K * s3) s1 s2 s3 m1 m2 m3 m1 m2 m3 W).mono (fun e w' h => (⟨by rw [h.1, cosI_same (by omega)], h.2⟩ : e = .returned (.int .i64 0) ∧ Below W.heap.size W w')))
      have cP := hide (fun W => (prime_any (K * s1) (K * s2) (K * s3) W).mono (fun e w' h => (⟨by rw [h.1, gI_mul (by omega), prI_mul (by omega), prI_mul (by omega), prI_mul (by omega), ht], h.2⟩ : e = .returned (.agg #[.int .i64 (prI true (gI s1 s2 s3) s1), .int .i64 (prI true (gI s1 s2 s3) s2), .int .i64 (prI true (gI s1 s2 s3) s3)]) ∧ Below W.heap.size W w')))
      have cQ := hide (fun W => (prime_any s1 s2 s3 W).mono (fun e w' h => (⟨by rw [h.1, hs], h.2⟩ : e = .returned (.agg #[.int .i64 (prI true (gI s1 s2 s3) s1), .int .i64 (prI true (gI s1 s2 s3) s2), .int .i64 (prI true (gI s1 s2 s3) s3)]) ∧ Below W.heap.size W w')))
      generalize prI true (gI s1 s2 s3) s1 = g1 at cP cQ
      generalize prI true (gI s1 s2 s3) s2 = g2 at cP cQ
      generalize prI true (gI s1 s2 s3) s3 = g3 at cP cQ
      have eq1 := fun w => (eql_vec g1 g2 g3 _ _ _ w).trans (by rw [eqB_self])
      have hn1 : IntKind.i64.wrap (-K) = -K := by rw [Go.IntWalk.i64_left]; exact wrap_id (by omega) (by omega)
      have hn2 : wrap64 (-K) = -K := wrap_id (by omega) (by omega)
      clear E1 E2 E3 M1 M2 M3 hs ht
      go_wp2_with fail
      have vs := unhide Hs
      obtain ⟨cs0, cs1, cs2⟩ := vs
      have rs0 := cell_regrown cs0
      have rs1 := cell_regrown cs1
      have rs2 := cell_regrown cs2
      clear cs0 cs1 cs2
      have vm := unhide Hm
      obtain ⟨cm0, cm1, cm2⟩ := vm
      have rm0 := cell_regrown cm0
      have rm1 := cell_regrown cm1
      have rm2 := cell_regrown cm2
      clear cm0 cm1 cm2
      refine wp_region_quiet_below (by kernel_rfl) (by kernel_rfl) ?_
      repeat (quiet_step (first | (with_reducible exact Calls.regrown_of (unhide cT _)) | (with_reducible exact Calls.regrown_of (unhide cN _)) | (with_reducible exact Calls.regrown_of (unhide cS _)) | (with_reducible exact Calls.regrown_of (unhide cM _)) | (with_reducible exact Calls.regrown_of (unhide cC _)) | (with_reducible exact Calls.regrown_of (unhide cP _)) | (with_reducible exact Calls.regrown_of (unhide cQ _))))
      refine wpQuiet_nil ?_
      intro _ hw'
      obtain ⟨⟨dq, osq⟩, hw''⟩ := hw'
      subst hw''
      clear rs0 rs1 rs2 rm0 rm1 rm2
      have hx := below_regrown w21 dq osq
      generalize grow (redrawn w21 dq) osq = w22 at hx ⊢
      replace Hs := hide ((unhide Hs).kept (vlt (unhide Hs)) hx)
      replace Hm := hide ((unhide Hm).kept (vlt (unhide Hm)) hx)
      replace HB := hide (below_call (unhide HB) hx)
      clear hx
      clear cT cN cS cM cC cP cQ eq1 hn1 hn2
      go_wp2_with fail
      go_ret
      exact ⟨rfl, unhide HB⟩
end Go.Proofs.Ytpjofdbeflhjnaa
