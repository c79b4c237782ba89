/- What the laws of chapter 7 do besides: rows written over from any number on, lists of numbers copied. -/
import Derived.Test.YtjdehbpgdplolaaDoorSkyG
import Derived.Test.YtjdehbpgdplolaaDoorIdC
import Derived.Test.YtjdehbpgdplolaaDoorMarkS
import Derived.Test.YtjdehbpgdplolaaDoorListI
import Derived.Test.YtjdehbpgdplolaaDoorMaA
namespace Go.Proofs.YtjdehbpgdplolaaDoor
open Go.RowKit Go.Sort
set_option linter.unusedVariables false

theorem rowOfStars {w : World} {b n : Nat} {L : List St} (h : OwnS w b n L n) : ∃ f, RowAt w 46 b (n * 4) f := by
  obtain ⟨cur, hc, hn, hs⟩ := h
  refine ⟨fun j => match cur[j]? with | some (.int _ v) => v | _ => 0, cur, hc, fun j hj => ?_⟩
  obtain ⟨h0, h1, h2, h3⟩ := hs (j / 4) (by omega)
  have hm : j = j / 4 * 4 ∨ j = j / 4 * 4 + 1 ∨ j = j / 4 * 4 + 2 ∨ j = j / 4 * 4 + 3 := by omega
  have e : ∃ z : Int, cur[j]? = some (.int .i64 z) := by
    rcases hm with e | e | e | e
    · exact ⟨_, by rw [e]; exact h0⟩
    · exact ⟨_, by rw [e]; exact h1⟩
    · exact ⟨_, by rw [e]; exact h2⟩
    · exact ⟨_, by rw [e]; exact h3⟩
  obtain ⟨z, hz⟩ := e
  simp only [hz]
theorem rowOfDirs {w : World} {b n : Nat} {L : List D3} (h : OwnD w b n L n) : ∃ f, RowV w 44 b (n * 3) f := by
  obtain ⟨cur, hc, hn, hs⟩ := h
  refine ⟨fun j => cur.getD j .nilIface, cur, hc, fun j hj => ?_⟩
  simp [Array.getD, show j < cur.size by omega]
set_option maxHeartbeats 2000000 in
set_option maxRecDepth 100000 in
theorem markVecS_from (n c g : Nat) (K : Int) (f : Nat → Value) (w : World) (hn : n ≤ 1048576) (hK0 : 0 ≤ K) (hK1 : K ≤ 100000000) (hR : RowV w 44 g (n * 3) f) :
    Calls Tryd.prog 14 #[.slice (some ⟨g, 0, none⟩) n c, .int .i64 K] w fun e w' => e = .returned (.int .i64 (K + (n : Int) * 3)) ∧ w.grownBy w' (some g) := by
  have HR := hide hR
  clear hR
  go_enter Tryd.func14, Tryd.ntmps14
  go_wp2_with fail
  go_loopw [1, 5] (fun k i wr => ∃ q : Nat, q ≤ n ∧ i = .int .i64 q ∧ k = .int .i64 (K + (q : Int) * 3) ∧ Hid (∃ f, RowV wr 44 g (n * 3) f) ∧ Hid (w.grownBy wr (some g))) (fun _ i _ => n - (intOf i).toNat)
  case atStart => exact ⟨0, by omega, rfl, by simp, hide ⟨_, unhide HR⟩, hide (gRefl w _)⟩
  case round =>
    obtain ⟨q, hq, rfl, rfl, HO, HG⟩ := hrel
    by_cases hqn : q < n
    · have hqn2 : (q : Int) < (n : Int) := by omega
      obtain ⟨f1, hr⟩ := unhide HO
      have e0 := hr.cell (j := q * 3) (by omega)
      have f0 := hr.free (q * 3)
      have e1 := hr.cell (j := q * 3 + 1) (by omega)
      have f1' := hr.free (q * 3 + 1)
      have e2 := hr.cell (j := q * 3 + 2) (by omega)
      have f2 := hr.free (q * 3 + 2)
      have R1 := hr.set (q * 3) (.int .i64 (K + (q : Int) * 3))
      have R2 := R1.set (q * 3 + 1) (.int .i64 (K + (q : Int) * 3 + 1))
      have R3 := R2.set (q * 3 + 2) (.int .i64 (K + (q : Int) * 3 + 1 + 1))
      have HO2 : Hid (∃ f, RowV _ 44 g (n * 3) f) := hide ⟨_, R3⟩
      have HG2 := hide (gSet (gSet (gSet (unhide HG) (q * 3) (.int .i64 (K + (q : Int) * 3))) (q * 3 + 1) (.int .i64 (K + (q : Int) * 3 + 1))) (q * 3 + 2) (.int .i64 (K + (q : Int) * 3 + 1 + 1)))
      clear R1 R2 R3 hr HO HG
      go_wp2_with fail
      go_roundw
      case rel => exact ⟨q + 1, by omega, by go_num, by go_num, HO2, HG2⟩
      case measure => simp [intOf]; omega
    · have hqn' : q = n := by omega
      subst hqn'
      go_wp2_with fail
      go_ret
      exact ⟨rfl, unhide HG⟩
/-- the first n numbers of ids lie at a -/
def Nums (w : World) (a : Option Addr) (ids : List Int) (n : Nat) : Prop := n = 0 ∨ ∃ b o, a = some ⟨b, o, none⟩ ∧ b < w.heap.size ∧ ∀ i, i < n → w.cell? ⟨b, o + i, none⟩ = some (.int .i64 (ids.getD i 0))
theorem Nums.kept {w w' : World} {a : Option Addr} {L : List Int} {n : Nat} (h : Nums w a L n) (hB : Below w.heap.size w w') : Nums w' a L n := by
  rcases h with h | ⟨b, o, ha, hb, hc⟩
  · exact .inl h
  · exact .inr ⟨b, o, ha, Nat.lt_of_lt_of_le hb hB.size, fun i hi => by rw [hB.cell (p := ⟨b, o + i, none⟩) hb]; exact hc i hi⟩
def numV (ids : List Int) (j : Nat) : Value := .int .i64 (ids.getD j 0)
theorem nums_of {w : World} {g n : Nat} {ids : List Int} (h : RowV w 2 g (n * 1) (numV ids)) : Nums w (some ⟨g, 0, none⟩) ids n :=
  .inr ⟨g, 0, rfl, h.lt, fun i hi => by rw [Nat.zero_add]; exact h.cell (by omega)⟩
theorem prow_of {w : World} {t : TypeId} {g n c : Nat} {f : Nat → Value} (h : RowV w t g (n * c) f) (cap : Nat) : PRow w t c 0 w.heap.size n (.slice (some ⟨g, 0, none⟩) n cap) f := .inr ⟨g, cap, rfl, Nat.zero_le _, h.lt, h⟩
end Go.Proofs.YtjdehbpgdplolaaDoor
