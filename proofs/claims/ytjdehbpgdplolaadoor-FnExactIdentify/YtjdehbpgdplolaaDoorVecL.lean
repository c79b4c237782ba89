/- CosCmp, the specification's: whole. -/
import Derived.Test.YtjdehbpgdplolaaDoorVecK
namespace Go.Proofs.YtjdehbpgdplolaaDoor
open Go.RowKit Go.Sort
set_option linter.unusedVariables false

theorem sq_fits {p q r P Q : Int} (h1 : -P ≤ p ∧ p ≤ P) (h2 : -Q ≤ q ∧ q ≤ Q) (h3 : -Q ≤ r ∧ r ≤ Q) (k1 : P * P ≤ 9223372036854775807) (k3 : Q * Q ≤ 9223372036854775807) (k4 : (P * P) * (Q * Q) ≤ 9223372036854775807) :
    wrap64 (wrap64 (p * p) * wrap64 (q * r)) = p * p * (q * r) := by
  have m1 := mulB h1 h1
  have m2 := mulB h2 h3
  have m3 := mulB m1 m2
  rw [wrap_id (n := p * p) (by omega) (by omega), wrap_id (n := q * r) (by omega) (by omega), wrap_id (by omega) (by omega)]
theorem cos_eq2 {a1 a2 a3 b1 b2 b3 c1 c2 c3 d1 d2 d3 : Int} (ha : wideB a1 a2 a3 = true) (hb : wideB b1 b2 b3 = true) (hc : smallB c1 c2 c3 = true) (hd : smallB d1 d2 d3 = true) :
    cosI a1 a2 a3 b1 b2 b3 c1 c2 c3 d1 d2 d3 = cosS (dotW a1 a2 a3 b1 b2 b3) (dotW c1 c2 c3 d1 d2 d3) (wrap64 (wrap64 (dotW a1 a2 a3 b1 b2 b3 * dotW a1 a2 a3 b1 b2 b3) * wrap64 (dotW c1 c2 c3 c1 c2 c3 * dotW d1 d2 d3 d1 d2 d3))) (wrap64 (wrap64 (dotW c1 c2 c3 d1 d2 d3 * dotW c1 c2 c3 d1 d2 d3) * wrap64 (dotW a1 a2 a3 a1 a2 a3 * dotW b1 b2 b3 b1 b2 b3))) := by
  have wa := (wideB_iff ha).2
  have wb := (wideB_iff hb).2
  have wc := (smallB_iff hc).2
  have wd := (smallB_iff hd).2
  have pa := sq_pos (rightB_iff.1 (wideB_iff ha).1).2
  have pb := sq_pos (rightB_iff.1 (wideB_iff hb).1).2
  have pc := sq_pos (rightB_iff.1 (smallB_iff hc).1).2
  have pd := sq_pos (rightB_iff.1 (smallB_iff hd).1).2
  unfold cosI
  rw [ha, hb, hc, hd, if_pos (by rfl)]
  rw [dotW_eq wa wb (by omega), dotW_eq wc wc (by omega), dotW_eq wd wd (by omega), dotW_eq wc wd (by omega), dotW_eq wa wa (by omega), dotW_eq wb wb (by omega)]
  have x1 := dot_bound wa wb
  have x2 := dot_bound wc wc
  have x3 := dot_bound wd wd
  have x4 := dot_bound wc wd
  have x5 := dot_bound wa wa
  have x6 := dot_bound wb wb
  rw [sq_fits (P := 9720000) (Q := 300) (by omega) (by omega) (by omega) (by omega) (by omega) (by omega), sq_fits (P := 300) (Q := 9720000) (by omega) (by omega) (by omega) (by omega) (by omega) (by omega)]
  exact (cos_spec (Int.mul_pos pc pd) (Int.mul_pos pa pb)).symm

end Go.Proofs.YtjdehbpgdplolaaDoor
