/- Which stars are seen: the program's and the specification's. -/
import Derived.Test.YtijpnnooenpjoahDoorSkyG
import Derived.Test.YtijpnnooenpjoahDoorTurnF
namespace Go.Proofs.YtijpnnooenpjoahDoor
open Go.RowKit Go.Sort
set_option linter.unusedVariables false

def coneB (x y z cone : Int) : Bool := decide (0 < z) && decide (wrap64 (wrap64 (cone * cone) * dotW x y z x y z) ≤ wrap64 (wrap64 (10000 * z) * z))
def coneS (s : St) (a b c d cone : Int) : Bool := coneB (apX a b c d s.2.1 s.2.2.1 s.2.2.2) (apY a b c d s.2.1 s.2.2.1 s.2.2.2) (apZ a b c d s.2.1 s.2.2.1 s.2.2.2) cone
def seenTo (L : List St) (a b c d cone : Int) : Nat → List Int
  | 0 => []
  | k + 1 => if coneS (stA L k) a b c d cone = true then seenTo L a b c d cone k ++ [(stA L k).1] else seenTo L a b c d cone k
def seenL (L : List St) (a b c d cone : Int) : List Int := if (skyB L && rightT a b c d && (decide (0 ≤ cone) && decide (cone ≤ 100))) = true then seenTo L a b c d cone L.length else []
theorem seenTo_len (L : List St) (a b c d cone : Int) (k : Nat) : (seenTo L a b c d cone k).length ≤ k := by
  induction k with
  | zero => exact Nat.le_refl _
  | succ k ih =>
    unfold seenTo
    split
    · simp; exact ih
    · omega
abbrev ints (xs : List Int) : List Value := xs.map (Value.int .i64)
theorem info_int : (Tryd.prog.info? 2).map (fun i => (i.zero, i.size, i.bytes)) = some (some (.int .i64 0), 1, 8) := by kernel_rfl
theorem World.ownsRow_weak {w : World} {B : Nat} {t : TypeId} {v : Value} {n m : Nat} {xs : List Value} (h : w.ownsRow (B + 1) t m v n xs) : w.ownsRow B t m v n xs := by
  obtain ⟨h1, h2⟩ := h
  refine ⟨h1, ?_⟩
  rcases h2 with h2 | ⟨g, cap, cur, e, hb, r⟩
  · exact .inl h2
  · exact .inr ⟨g, cap, cur, e, by omega, r⟩
theorem World.ownsRow_less {w : World} {B B' : Nat} {t : TypeId} {v : Value} {n m : Nat} {xs : List Value} (h : w.ownsRow B t m v n xs) (hb : B' ≤ B) : w.ownsRow B' t m v n xs := by
  obtain ⟨h1, h2⟩ := h
  refine ⟨h1, ?_⟩
  rcases h2 with h2 | ⟨g, cap, cur, e, hg, r⟩
  · exact .inl h2
  · exact .inr ⟨g, cap, cur, e, by omega, r⟩
/-- what a call leaves in rows of its own: below B nothing turns -/
theorem grownOwn {B : Nat} {w w1 w2 : World} {v : Value} {t : TypeId} {n m : Nat} {xs : List Value} (h : Below B w w1) (hB : B ≤ w1.heap.size) (ho : w1.ownsRow B t m v n xs) (hg : w1.grownBy w2 v.ownBlock) : Below B w w2 :=
  h.trans ⟨hg.os, hg.tape, hg.output, hg.size, fun k hk => hg.block k (by omega) (fun e => by have := (ho.lt k e.symm).1; omega)⟩

set_option maxHeartbeats 1000000 in
set_option maxRecDepth 100000 in
theorem inCone_any (x y z cone : Int) (w : World) :
    Calls Tryd.prog 38 #[.agg #[.int .i64 x, .int .i64 y, .int .i64 z], .int .i64 cone] w fun e w' => e = .returned (.bool (coneB x y z cone)) ∧ Below w.heap.size w w' := by
  have cQ := hide (fun W => square_any x y z W)
  have HC : Hid (coneB x y z cone = (decide (0 < z) && decide (wrap64 (wrap64 (cone * cone) * dotW x y z x y z) ≤ wrap64 (wrap64 (10000 * z) * z)))) := hide rfl
  generalize dotW x y z x y z = dd at cQ HC
  obtain ⟨m1, hm1⟩ : ∃ m, wrap64 (10000 * z) = m := ⟨_, rfl⟩
  obtain ⟨m2, hm2⟩ : ∃ m, wrap64 (m1 * z) = m := ⟨_, rfl⟩
  obtain ⟨m3, hm3⟩ : ∃ m, wrap64 (cone * cone) = m := ⟨_, rfl⟩
  obtain ⟨m4, hm4⟩ : ∃ m, wrap64 (m3 * dd) = m := ⟨_, rfl⟩
  rw [hm1, hm2, hm3, hm4] at HC
  have hB := below1 w (.cells #[.int .i64 x, .int .i64 y, .int .i64 z] 30)
  have hV := vecAt_new w x y z 30
  go_enter Tryd.func38, Tryd.ntmps38
  go_wp2_with fail
  generalize w.alloc (.cells #[.int .i64 x, .int .i64 y, .int .i64 z] 30) = W at hB hV ⊢
  have HB := hide hB
  obtain ⟨v0, v1, v2⟩ := hV
  have r0 := cell_regrown v0
  have r1 := cell_regrown v1
  have r2 := cell_regrown v2
  clear hB v0 v1 v2
  by_cases hz : 0 < z
  · have HC2 : Hid (coneB x y z cone = decide (m4 ≤ m2)) := hide (by rw [unhide HC]; simp [hz])
    clear HC
    refine wp_region_quiet_below (by kernel_rfl) (by kernel_rfl) ?_
    repeat (go_big_quiet_step (first | (with_reducible exact Calls.regrown_of (unhide cQ _))))
    refine wpQuiet_nil ?_
    intro _ hw'
    obtain ⟨⟨dq, osq⟩, hw''⟩ := hw'
    subst hw''
    have hx := below_call (unhide HB) (below_regrown W dq osq)
    go_wp2_with fail
    go_ret
    exact ⟨by rw [unhide HC2]; rfl, hx⟩
  · have hz' : decide (0 < z) = false := by simpa using hz
    have HC2 : Hid (coneB x y z cone = false) := hide (by rw [unhide HC, hz']; rfl)
    clear HC
    refine wp_region_quiet_below (by kernel_rfl) (by kernel_rfl) ?_
    repeat (go_big_quiet_step (first | (with_reducible exact Calls.regrown_of (unhide cQ _))))
    refine wpQuiet_nil ?_
    intro _ hw'
    obtain ⟨⟨dq, osq⟩, hw''⟩ := hw'
    subst hw''
    have hx := below_call (unhide HB) (below_regrown W dq osq)
    go_wp2_with fail
    go_ret
    exact ⟨by rw [unhide HC2]; rfl, hx⟩
end Go.Proofs.YtijpnnooenpjoahDoor
