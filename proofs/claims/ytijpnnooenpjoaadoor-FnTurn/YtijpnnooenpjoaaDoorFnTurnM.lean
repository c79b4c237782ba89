/- What the law on turns asks of a turn that is right: the contracts of its calls, one by one. -/
import Derived.Test.YtijpnnooenpjoaaDoorTurnF
import Derived.Test.YtijpnnooenpjoaaDoorTurnG
import Derived.Test.YtijpnnooenpjoaaDoorTurnMath3
import Derived.Test.YtijpnnooenpjoaaDoorVecG
import Derived.Test.YtijpnnooenpjoaaDoorVecH
import Derived.Test.YtijpnnooenpjoaaDoorVecJ
namespace Go.Proofs.YtijpnnooenpjoaaDoor
open Go.RowKit
set_option linter.unusedVariables false

theorem apply_right {a b c d x y z : Int} (ht : rightT a b c d = true) (hw : wideB x y z = true) : Hid (∀ W : World, Calls Tryd.prog 24 #[.agg #[.int .i64 a, .int .i64 b, .int .i64 c, .int .i64 d], .agg #[.int .i64 x, .int .i64 y, .int .i64 z]] W fun e w' => e = .returned (.agg #[.int .i64 (apX a b c d x y z), .int .i64 (apY a b c d x y z), .int .i64 (apZ a b c d x y z)]) ∧ Below W.heap.size W w') := by
  have e : apR a b c d x y z = true := by unfold apR; rw [ht, hw]; rfl
  have i : ∀ v, apI (apR a b c d x y z) v = v := fun v => by rw [e]; rfl
  exact hide (fun W => (apply_any a b c d x y z W).mono fun e w' h => ⟨by rw [h.1, i, i, i], h.2⟩)

theorem law_back {k1 k2 k3 k4 b1 b2 b3 b4 : Int} (hk : rightT k1 k2 k3 k4 = true) (hb : b1 = bkP k1 k2 k3 k4 k1 ∧ b2 = bkP k1 k2 k3 k4 (-k2) ∧ b3 = bkP k1 k2 k3 k4 (-k3) ∧ b4 = bkP k1 k2 k3 k4 (-k4)) :
    (b1 = bS k1 * k1 ∧ b2 = bS k1 * -k2 ∧ b3 = bS k1 * -k3 ∧ b4 = bS k1 * -k4) ∧
    Hid (∀ W : World, Calls Tryd.prog 27 #[.agg #[.int .i64 b1, .int .i64 b2, .int .i64 b3, .int .i64 b4]] W fun e w' => e = .returned (.agg #[.int .i64 k1, .int .i64 k2, .int .i64 k3, .int .i64 k4]) ∧ Below W.heap.size W w') ∧
    Hid (∀ W : World, Calls Tryd.prog 16 #[.agg #[.int .i64 b1, .int .i64 b2, .int .i64 b3, .int .i64 b4], .agg #[.int .i64 k1, .int .i64 k2, .int .i64 k3, .int .i64 k4]] W fun e w' => e = .returned (.agg #[.int .i64 1, .int .i64 0, .int .i64 0, .int .i64 0, .int .i64 0]) ∧ Below W.heap.size W w') := by
  obtain ⟨e1, e2, e3, e4⟩ := hb
  rw [bkP_right hk] at e1 e2 e3 e4
  subst e1 e2 e3 e4
  obtain ⟨f1, f2, f3, f4⟩ := back_back hk
  obtain ⟨g0, g1, g2, g3, g4⟩ := back_co hk
  have hr := back_right hk
  refine ⟨⟨rfl, rfl, rfl, rfl⟩, ?_, ?_⟩
  · exact hide (fun W => (back_any _ _ _ _ W).mono fun e w' h => ⟨by rw [h.1, bkP_right hr, bkP_right hr, bkP_right hr, bkP_right hr, f1, f2, f3, f4], h.2⟩)
  · exact hide (fun W => (compose_any _ _ _ _ _ _ _ _ W).mono fun e w' h => ⟨by rw [h.1, g0, g1, g2, g3, g4], h.2⟩)

theorem law_keep {k1 k2 k3 k4 b1 b2 b3 b4 p1 p2 p3 q1 q2 q3 : Int} (hk : rightT k1 k2 k3 k4 = true) (hb : b1 = bS k1 * k1 ∧ b2 = bS k1 * -k2 ∧ b3 = bS k1 * -k3 ∧ b4 = bS k1 * -k4) (hp : nearB p1 p2 p3) (hq : nearB q1 q2 q3) :
    ∃ g1 g2 g3 h1 h2 h3 e1 e2 e3 l1 l2 l3 : Int, Hid (∀ W : World, Calls Tryd.prog 24 #[.agg #[.int .i64 k1, .int .i64 k2, .int .i64 k3, .int .i64 k4], .agg #[.int .i64 p1, .int .i64 p2, .int .i64 p3]] W fun e w' => e = .returned (.agg #[.int .i64 g1, .int .i64 g2, .int .i64 g3]) ∧ Below W.heap.size W w') ∧
      Hid (∀ W : World, Calls Tryd.prog 24 #[.agg #[.int .i64 k1, .int .i64 k2, .int .i64 k3, .int .i64 k4], .agg #[.int .i64 q1, .int .i64 q2, .int .i64 q3]] W fun e w' => e = .returned (.agg #[.int .i64 h1, .int .i64 h2, .int .i64 h3]) ∧ Below W.heap.size W w') ∧
      Hid (∀ W : World, Calls Tryd.prog 34 #[.agg #[.int .i64 g1, .int .i64 g2, .int .i64 g3], .agg #[.int .i64 h1, .int .i64 h2, .int .i64 h3], .agg #[.int .i64 p1, .int .i64 p2, .int .i64 p3], .agg #[.int .i64 q1, .int .i64 q2, .int .i64 q3]] W fun e w' => e = .returned (.int .i64 0) ∧ Below W.heap.size W w') ∧
      Hid (∀ W : World, Calls Tryd.prog 36 #[.agg #[.int .i64 g1, .int .i64 g2, .int .i64 g3]] W fun e w' => e = .returned (.agg #[.int .i64 e1, .int .i64 e2, .int .i64 e3]) ∧ Below W.heap.size W w') ∧
      Hid (∀ W : World, Calls Tryd.prog 24 #[.agg #[.int .i64 b1, .int .i64 b2, .int .i64 b3, .int .i64 b4], .agg #[.int .i64 e1, .int .i64 e2, .int .i64 e3]] W fun e w' => e = .returned (.agg #[.int .i64 l1, .int .i64 l2, .int .i64 l3]) ∧ Below W.heap.size W w') ∧
      Hid (∀ W : World, Calls Tryd.prog 35 #[.agg #[.int .i64 l1, .int .i64 l2, .int .i64 l3], .agg #[.int .i64 p1, .int .i64 p2, .int .i64 p3]] W fun e w' => e = .returned (.bool true) ∧ Below W.heap.size W w') := by
  obtain ⟨r1, r2, r3, r4⟩ := hb
  subst r1 r2 r3 r4
  obtain ⟨e1, e2, e3, g, i1, i2, i3, m1, m2, m3, hg, hw, hd⟩ := prime_near hk hp
  have hu := undo hk hp hg m1 m2 m3
  refine ⟨_, _, _, _, _, _, e1, e2, e3, _, _, _, apply_right hk (near_wide hp), apply_right hk (near_wide hq), ?_, ?_, apply_right (back_right hk) hw, ?_⟩
  · exact hide (fun W => (cosCmp_any _ _ _ _ _ _ _ _ _ _ _ _ W).mono fun e w' h => ⟨by rw [h.1, cos_keeps hk], h.2⟩)
  · exact hide (fun W => (prime_any _ _ _ W).mono fun e w' h => ⟨by rw [h.1, i1, i2, i3], h.2⟩)
  · exact hide (fun W => (sameWay_any _ _ _ _ _ _ W).mono fun e w' h => ⟨by rw [h.1, hu], h.2⟩)

theorem law_two {s1 s2 s3 s4 u1 u2 u3 u4 x1 x2 x3 x4 p1 p2 p3 : Int} (hc : coK s1 s2 s3 s4 u1 u2 u3 u4 = 0) (hx : x1 = coP s1 s2 s3 s4 u1 u2 u3 u4 (coA s1 s2 s3 s4 u1 u2 u3 u4) ∧ x2 = coP s1 s2 s3 s4 u1 u2 u3 u4 (coB s1 s2 s3 s4 u1 u2 u3 u4) ∧ x3 = coP s1 s2 s3 s4 u1 u2 u3 u4 (coC s1 s2 s3 s4 u1 u2 u3 u4) ∧ x4 = coP s1 s2 s3 s4 u1 u2 u3 u4 (coD s1 s2 s3 s4 u1 u2 u3 u4)) (hp : nearB p1 p2 p3) :
    ∃ g1 g2 g3 e1 e2 e3 l1 l2 l3 j1 j2 j3 : Int, Hid (∀ W : World, Calls Tryd.prog 24 #[.agg #[.int .i64 u1, .int .i64 u2, .int .i64 u3, .int .i64 u4], .agg #[.int .i64 p1, .int .i64 p2, .int .i64 p3]] W fun e w' => e = .returned (.agg #[.int .i64 g1, .int .i64 g2, .int .i64 g3]) ∧ Below W.heap.size W w') ∧
      Hid (∀ W : World, Calls Tryd.prog 36 #[.agg #[.int .i64 g1, .int .i64 g2, .int .i64 g3]] W fun e w' => e = .returned (.agg #[.int .i64 e1, .int .i64 e2, .int .i64 e3]) ∧ Below W.heap.size W w') ∧
      Hid (∀ W : World, Calls Tryd.prog 24 #[.agg #[.int .i64 s1, .int .i64 s2, .int .i64 s3, .int .i64 s4], .agg #[.int .i64 e1, .int .i64 e2, .int .i64 e3]] W fun e w' => e = .returned (.agg #[.int .i64 l1, .int .i64 l2, .int .i64 l3]) ∧ Below W.heap.size W w') ∧
      Hid (∀ W : World, Calls Tryd.prog 24 #[.agg #[.int .i64 x1, .int .i64 x2, .int .i64 x3, .int .i64 x4], .agg #[.int .i64 p1, .int .i64 p2, .int .i64 p3]] W fun e w' => e = .returned (.agg #[.int .i64 j1, .int .i64 j2, .int .i64 j3]) ∧ Below W.heap.size W w') ∧
      Hid (∀ W : World, Calls Tryd.prog 35 #[.agg #[.int .i64 j1, .int .i64 j2, .int .i64 j3], .agg #[.int .i64 l1, .int .i64 l2, .int .i64 l3]] W fun e w' => e = .returned (.bool true) ∧ Below W.heap.size W w') := by
  have hcr : coR s1 s2 s3 s4 u1 u2 u3 u4 = true := by
    cases hr : coR s1 s2 s3 s4 u1 u2 u3 u4 with
    | true => rfl
    | false => unfold coK at hc; rw [hr] at hc; simp at hc
  have hcr' := hcr
  unfold coR at hcr'
  rw [Bool.and_eq_true] at hcr'
  obtain ⟨hs, hu⟩ := hcr'
  obtain ⟨e1, e2, e3, g, i1, i2, i3, m1, m2, m3, hg, hw, hd⟩ := prime_near hu hp
  obtain ⟨a, b, c, d, c1, c2, c3, c4, hr, hsame⟩ := together hs hu hp hc hg m1 m2 m3 hw hd
  obtain ⟨f1, f2, f3, f4⟩ := hx
  rw [c1] at f1
  rw [c2] at f2
  rw [c3] at f3
  rw [c4] at f4
  subst f1 f2 f3 f4
  refine ⟨_, _, _, e1, e2, e3, _, _, _, _, _, _, apply_right hu (near_wide hp), ?_, apply_right hs hw, apply_right hr (near_wide hp), ?_⟩
  · exact hide (fun W => (prime_any _ _ _ W).mono fun e w' h => ⟨by rw [h.1, i1, i2, i3], h.2⟩)
  · exact hide (fun W => (sameWay_any _ _ _ _ _ _ W).mono fun e w' h => ⟨by rw [h.1, hsame], h.2⟩)
end Go.Proofs.YtijpnnooenpjoaaDoor
