/- TurnOf: the program's and the specification's. -/
import Derived.Test.YtdclojpgbekmeaaDoorTurnO
namespace Go.Proofs.YtdclojpgbekmeaaDoor
open Go.RowKit Go.Sort
set_option linter.unusedVariables false

theorem of_form {a b c d : Int} (h : (inT 1000 a b c d && !zeroT a b c d) = false) : Value.agg #[.int .i64 (ofP a b c d a), .int .i64 (ofP a b c d b), .int .i64 (ofP a b c d c), .int .i64 (ofP a b c d d), .int .i64 (ofC a b c d)] = Value.agg #[.int .i64 0, .int .i64 0, .int .i64 0, .int .i64 0, .int .i64 1] := by
  unfold ofP
  rw [ofC_form h]
  rfl
theorem of_full {a b c d : Int} (h1 : inT 1000 a b c d = true) (h2 : zeroT a b c d = false) (h : rightT (a.tdiv (sT a b c d)) (b.tdiv (sT a b c d)) (c.tdiv (sT a b c d)) (d.tdiv (sT a b c d)) = false) : Value.agg #[.int .i64 (ofP a b c d a), .int .i64 (ofP a b c d b), .int .i64 (ofP a b c d c), .int .i64 (ofP a b c d d), .int .i64 (ofC a b c d)] = Value.agg #[.int .i64 0, .int .i64 0, .int .i64 0, .int .i64 0, .int .i64 9] := by
  have e : ofC a b c d = 9 := by unfold ofC; rw [h1, h2, h]; rfl
  unfold ofP
  rw [e]
  rfl
theorem of_ok {a b c d : Int} (h1 : inT 1000 a b c d = true) (h2 : zeroT a b c d = false) (h : rightT (a.tdiv (sT a b c d)) (b.tdiv (sT a b c d)) (c.tdiv (sT a b c d)) (d.tdiv (sT a b c d)) = true) : Value.agg #[.int .i64 (ofP a b c d a), .int .i64 (ofP a b c d b), .int .i64 (ofP a b c d c), .int .i64 (ofP a b c d d), .int .i64 (ofC a b c d)] = Value.agg #[.int .i64 (a.tdiv (sT a b c d)), .int .i64 (b.tdiv (sT a b c d)), .int .i64 (c.tdiv (sT a b c d)), .int .i64 (d.tdiv (sT a b c d)), .int .i64 0] := by
  have e : ofC a b c d = 0 := by unfold ofC; rw [h1, h2, h]; rfl
  unfold ofP
  rw [e]
  rfl

set_option maxHeartbeats 1000000 in
set_option maxRecDepth 100000 in
theorem turnOf_any (a b c d : Int) (w : World) :
    Calls Tryd.prog 71 #[.int .i64 a, .int .i64 b, .int .i64 c, .int .i64 d] w fun e w' => e = .returned (.agg #[.int .i64 (ofP a b c d a), .int .i64 (ofP a b c d b), .int .i64 (ofP a b c d c), .int .i64 (ofP a b c d d), .int .i64 (ofC a b c d)]) ∧ Below w.heap.size w w' := by
  have he := fun w => eql_turn a b c d 0 0 0 0 w
  cases hz : eqT a b c d 0 0 0 0
  · rw [hz] at he
    have HZ := hide (show zeroT a b c d = false from hz)
    clear hz
    go_enter Tryd.func71, Tryd.ntmps71
    go_wp2_with fail
    refine (twithin_any 1000 a b c d _ (by omega) (by omega)).mono ?_
    rintro e w1 ⟨rfl, hB1⟩
    have vr : OutAt w1 w.heap.size 0 0 0 0 0 := ((outAt_new w 0 0 0 0 0 _).alloc _).kept hB1
    have fr : FreeO w1 w.heap.size := ((freeO_new w 0 0 0 0 0 _).kept (by simp) (below1 _ _)).kept (by simp; omega) hB1
    have va : TurnAt w1 (w.heap.size + 1) a b c d := (by simpa using turnAt_new (w.alloc _) a b c d _ : TurnAt _ (w.heap.size + 1) a b c d).kept (by simp) hB1
    have hB : Below w.heap.size w w1 := below_call (below2 _ _ _) hB1
    clear hB1 he
    cases hi : inT 1000 a b c d
    · have HR := hide (of_form (a := a) (b := b) (c := c) (d := d) (by rw [hi]; rfl))
      obtain ⟨cr0, cr1, cr2, cr3, cr4⟩ := vr
      obtain ⟨fr0, fr1, fr2, fr3, fr4⟩ := fr
      go_wp2_with fail
      exact bodyPost_ret (v := .agg #[.int .i64 0, .int .i64 0, .int .i64 0, .int .i64 0, .int .i64 1]) (by simp [results, Tryd.results71, go_sem, cr0, cr1, cr2, cr3, cr4]) rfl ⟨by rw [unhide HR], below_set5 hB (by omega) _ _ _ _ _⟩
    · have hva := va
      obtain ⟨ca0, ca1, ca2, ca3⟩ := va
      go_wp2_with fail
      refine (reduced_any a b c d _ hi (zeroT_false (unhide HZ))).mono ?_
      rintro e w2 ⟨rfl, hB2⟩
      have hlt := vr.lt
      replace vr := vr.kept hB2
      replace fr := fr.kept hlt hB2
      replace hB := below_call hB hB2
      clear hB2 hva ca0 ca1 ca2 ca3
      cases hr : rightT (a.tdiv (sT a b c d)) (b.tdiv (sT a b c d)) (c.tdiv (sT a b c d)) (d.tdiv (sT a b c d))
      · have HR := hide (of_full hi (unhide HZ) hr)
        generalize a.tdiv (sT a b c d) = p at hr ⊢
        generalize b.tdiv (sT a b c d) = q at hr ⊢
        generalize c.tdiv (sT a b c d) = r at hr ⊢
        generalize d.tdiv (sT a b c d) = s at hr ⊢
        have vr1 := vr.alloc (.cells #[.int .i64 p, .int .i64 q, .int .i64 r, .int .i64 s] 30)
        have fr1 := fr.kept vr.lt (below1 w2 (.cells #[.int .i64 p, .int .i64 q, .int .i64 r, .int .i64 s] 30))
        have hB1 := hB.alloc (Nat.le_of_lt (vr.lt)) (.cells #[.int .i64 p, .int .i64 q, .int .i64 r, .int .i64 s] 30)
        go_wp2_with fail
        refine (turnRight_any p q r s _).mono ?_
        rintro e w3 ⟨rfl, hB3⟩
        rw [hr]
        have hlt := vr1.lt
        replace vr := vr1.kept hB3
        replace fr := fr1.kept hlt hB3
        replace hB := below_call hB1 hB3
        clear hB3 vr1 fr1 hB1
        obtain ⟨cr0, cr1, cr2, cr3, cr4⟩ := vr
        obtain ⟨fr0, fr1, fr2, fr3, fr4⟩ := fr
        go_wp2_with fail
        exact bodyPost_ret (v := .agg #[.int .i64 0, .int .i64 0, .int .i64 0, .int .i64 0, .int .i64 9]) (by simp [results, Tryd.results71, go_sem, cr0, cr1, cr2, cr3, cr4]) rfl ⟨by rw [unhide HR], below_set5 hB (by omega) _ _ _ _ _⟩
      · have HR := hide (of_ok hi (unhide HZ) hr)
        generalize a.tdiv (sT a b c d) = p at hr HR ⊢
        generalize b.tdiv (sT a b c d) = q at hr HR ⊢
        generalize c.tdiv (sT a b c d) = r at hr HR ⊢
        generalize d.tdiv (sT a b c d) = s at hr HR ⊢
        have vr1 := vr.alloc (.cells #[.int .i64 p, .int .i64 q, .int .i64 r, .int .i64 s] 30)
        have fr1 := fr.kept vr.lt (below1 w2 (.cells #[.int .i64 p, .int .i64 q, .int .i64 r, .int .i64 s] 30))
        have vt1 := turnAt_new w2 p q r s 30
        have hB1 := hB.alloc (Nat.le_of_lt (vr.lt)) (.cells #[.int .i64 p, .int .i64 q, .int .i64 r, .int .i64 s] 30)
        go_wp2_with fail
        refine (turnRight_any p q r s _).mono ?_
        rintro e w3 ⟨rfl, hB3⟩
        rw [hr]
        have hlt := vr1.lt
        replace vr := vr1.kept hB3
        replace fr := fr1.kept hlt hB3
        have vt := vt1.kept vt1.lt hB3
        replace hB := below_call hB1 hB3
        clear hB3 vr1 fr1 hB1 vt1
        obtain ⟨cr0, cr1, cr2, cr3, cr4⟩ := vr
        obtain ⟨fr0, fr1, fr2, fr3, fr4⟩ := fr
        obtain ⟨ct0, ct1, ct2, ct3⟩ := vt
        go_wp2_with fail
        exact bodyPost_ret (v := .agg #[.int .i64 p, .int .i64 q, .int .i64 r, .int .i64 s, .int .i64 0]) (by simp [results, Tryd.results71, go_sem, cr0, cr1, cr2, cr3, cr4]) rfl ⟨by rw [unhide HR], below_set5 hB (by omega) _ _ _ _ _⟩
  · rw [hz] at he
    have HR := hide (of_form (a := a) (b := b) (c := c) (d := d) (by rw [show zeroT a b c d = true from hz]; simp))
    go_enter Tryd.func71, Tryd.ntmps71
    go_wp2_with fail
    exact bodyPost_ret (v := .agg #[.int .i64 0, .int .i64 0, .int .i64 0, .int .i64 0, .int .i64 1]) (by simp [results, Tryd.results71, go_sem]) rfl ⟨by rw [unhide HR], below2 _ _ _⟩

end Go.Proofs.YtdclojpgbekmeaaDoor
