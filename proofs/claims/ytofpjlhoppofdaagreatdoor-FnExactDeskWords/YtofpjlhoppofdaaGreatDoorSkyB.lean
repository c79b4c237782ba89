/- Stars in memory; whether one of them is the same way as a direction. -/
import Derived.Test.YtofpjlhoppofdaaGreatDoorSkyA
import Derived.Test.YtofpjlhoppofdaaGreatDoorSkyMath
import Derived.Test.YtofpjlhoppofdaaGreatDoorVecG
import Derived.Test.YtofpjlhoppofdaaGreatDoorVecH
import Derived.Test.YtofpjlhoppofdaaGreatDoorVecI
namespace Go.Proofs.YtofpjlhoppofdaaGreatDoor
open Go.RowKit
set_option linter.unusedVariables false

def StarAt (w : World) (b o : Nat) (s : St) : Prop := w.cell? ⟨b, o, none⟩ = some (.int .i64 s.1) ∧ w.cell? ⟨b, o + 1, none⟩ = some (.int .i64 s.2.1) ∧ w.cell? ⟨b, o + 2, none⟩ = some (.int .i64 s.2.2.1) ∧ w.cell? ⟨b, o + 3, none⟩ = some (.int .i64 s.2.2.2)
/-- the first n stars of L lie at a -/
def Stars (w : World) (a : Option Addr) (L : List St) (n : Nat) : Prop := n = 0 ∨ ∃ b o, a = some ⟨b, o, none⟩ ∧ b < w.heap.size ∧ ∀ i, i < n → StarAt w b (o + i * 4) (stA L i)
theorem StarAt.kept {w w' : World} {b o : Nat} {s : St} (h : StarAt w b o s) (hb : b < w.heap.size) (hB : Below w.heap.size w w') : StarAt w' b o s := by
  obtain ⟨h0, h1, h2, h3⟩ := h
  exact ⟨by rw [hB.cell (p := ⟨b, o, none⟩) hb]; exact h0, by rw [hB.cell (p := ⟨b, o + 1, none⟩) hb]; exact h1, by rw [hB.cell (p := ⟨b, o + 2, none⟩) hb]; exact h2, by rw [hB.cell (p := ⟨b, o + 3, none⟩) hb]; exact h3⟩
theorem Stars.kept {w w' : World} {a : Option Addr} {L : List St} {n : Nat} (h : Stars w a L n) (hB : Below w.heap.size w w') : Stars w' a L n := by
  rcases h with h | ⟨b, o, ha, hb, hc⟩
  · exact .inl h
  · exact .inr ⟨b, o, ha, Nat.lt_of_lt_of_le hb hB.size, fun i hi => (hc i hi).kept hb hB⟩
theorem vlt {w : World} {b : Nat} {x y z : Int} (h : VecAt w b x y z) : b < w.heap.size := World.block_lt_of_cell? w _ h.1
theorem Stars.less {w : World} {a : Option Addr} {L : List St} {n m : Nat} (h : Stars w a L n) (hm : m ≤ n) : Stars w a L m := by
  rcases h with h | ⟨b, o, ha, hb, hc⟩
  · exact .inl (by omega)
  · exact .inr ⟨b, o, ha, hb, fun i hi => hc i (by omega)⟩

set_option maxHeartbeats 1000000 in
set_option maxRecDepth 100000 in
theorem isTaken_any (L : List St) (n : Nat) (x y z : Int) (a : Option Addr) (c : Nat) (w : World) (hn : n ≤ 1048576) (hS : Stars w a L n) :
    Calls Tryz.prog 180 #[.agg #[.int .i64 x, .int .i64 y, .int .i64 z], .slice a n c] w fun e w' => e = .returned (.bool (takenB L (0, x, y, z) n)) ∧ Below w.heap.size w w' := by
  rcases hS with rfl | ⟨b, o, rfl, hb, hc⟩
  · go_enter Tryz.func180, Tryz.ntmps180
    go_wp2_with fail
    refine wp_loop_rounds 1 ?_
    rw [rounds_succ]
    go_wp2_with fail
    go_ret
    exact ⟨rfl, below1 _ _⟩
  · have HC := hide hc
    clear hc
    have V0 := hide (vecAt_new w x y z 76)
    have B0 := hide (below1 w (.cells #[.int .i64 x, .int .i64 y, .int .i64 z] 76))
    go_enter Tryz.func180, Tryz.ntmps180
    go_wp2_with fail
    go_loopw [9] (fun i wr => ∃ k : Nat, k ≤ n ∧ i = .int .i64 k ∧ Hid (freeTo L (0, x, y, z) k) ∧ Hid (Below w.heap.size w wr) ∧ Hid (VecAt wr w.heap.size x y z)) (fun i _ => n - (intOf i).toNat)
    case atStart => exact ⟨0, by omega, rfl, hide (fun j hj => absurd hj (Nat.not_lt_zero _)), B0, V0⟩
    case round =>
      obtain ⟨k, hk, rfl, HF, HB, HV⟩ := hrel
      by_cases hkn : k < n
      · obtain ⟨⟨s1, s2, s3, s4⟩, hs⟩ : ∃ s, stA L k = s := ⟨_, rfl⟩
        have hst := ((unhide HC) k hkn).kept hb (unhide HB)
        rw [hs] at hst
        obtain ⟨c0, c1, c2, c3⟩ := hst
        have HS := hide hs
        clear hs
        have V1 := hide (VecAt.alloc (unhide HV) (vlt (unhide HV)) (.cells #[.int .i64 s1, .int .i64 s2, .int .i64 s3, .int .i64 s4] 78))
        have B1 := hide ((unhide HB).alloc (unhide HB).size (.cells #[.int .i64 s1, .int .i64 s2, .int .i64 s3, .int .i64 s4] 78))
        obtain ⟨v0, v1, v2⟩ := unhide V1
        go_wp2_with fail
        refine (sameWay_any x y z s2 s3 s4 _).mono ?_
        rintro e w2 ⟨rfl, hx⟩
        have HV2 := hide ((unhide V1).kept (vlt (unhide V1)) hx)
        have HB2 := hide (below_call (unhide B1) hx)
        clear hx c0 c1 c2 c3 v0 v1 v2 V1 B1 HB HV
        have HR : Hid (sameS (0, x, y, z) (stA L k) = sameB x y z s2 s3 s4) := hide (by rw [unhide HS]; rfl)
        cases hq : sameB x y z s2 s3 s4
        · rw [hq] at HR
          go_wp2_with fail
          go_roundw
          case rel => exact ⟨k + 1, by omega, by go_num, hide (free_step (unhide HF) (unhide HR)), HB2, HV2⟩
          case measure => simp [intOf]; omega
        · rw [hq] at HR
          go_wp2_with fail
          go_ret
          exact ⟨by rw [taken_yes hkn (unhide HR)]; rfl, unhide HB2⟩
      · have hkn' : k = n := by omega
        subst hkn'
        go_wp2_with fail
        go_ret
        exact ⟨by rw [taken_no (unhide HF)]; rfl, unhide HB⟩
end Go.Proofs.YtofpjlhoppofdaaGreatDoor
