/- Where the star of an Id is: the program's and the specification's. -/
import Derived.Test.YtjdehbpgdplolaaDoorSkyG
namespace Go.Proofs.YtjdehbpgdplolaaDoor
open Go.RowKit Go.Sort
set_option linter.unusedVariables false

def noneTo (L : List St) (id : Int) (k : Nat) : Prop := ∀ j, j < k → (stA L j).1 ≠ id
def atV (L : List St) (n : Nat) (id : Int) : Int × Int × Int := match (List.range n).find? (fun j => decide ((stA L j).1 = id)) with | none => (0, 0, 0) | some j => (stA L j).2
theorem at_none {L : List St} {n : Nat} {id : Int} (h : noneTo L id n) : atV L n id = (0, 0, 0) := by
  unfold atV
  have : (List.range n).find? (fun j => decide ((stA L j).1 = id)) = none := by
    rw [List.find?_eq_none]
    intro j hj
    simp [h j (List.mem_range.1 hj)]
  rw [this]
theorem at_hit {L : List St} {n k : Nat} {id : Int} (hk : k < n) (h : noneTo L id k) (h1 : (stA L k).1 = id) : atV L n id = (stA L k).2 := by
  unfold atV
  have : (List.range n).find? (fun j => decide ((stA L j).1 = id)) = some k := by
    rw [List.find?_range_eq_some]
    exact ⟨by simp [h1], List.mem_range.2 hk, fun j hj => by simp [h j hj]⟩
  rw [this]
theorem none_step {L : List St} {k : Nat} {id : Int} (h : noneTo L id k) (h1 : (stA L k).1 ≠ id) : noneTo L id (k + 1) := by
  intro j hj
  by_cases e : j = k
  · rw [e]; exact h1
  · exact h j (by omega)
def starV (L : List St) (id : Int) : Int × Int × Int := if skyB L = true then atV L L.length id else (0, 0, 0)
def vecV (v : Int × Int × Int) : Value := .agg #[.int .i64 v.1, .int .i64 v.2.1, .int .i64 v.2.2]

set_option maxHeartbeats 1000000 in
set_option maxRecDepth 100000 in
theorem l04At_any (L : List St) (n : Nat) (id : Int) (a : Option Addr) (c : Nat) (w : World) (hn : n ≤ 1048576) (hS : Stars w a L n) :
    Calls Tryd.prog 58 #[.slice a n c, .int .i64 id] w fun e w' => e = .returned (vecV (atV L n id)) ∧ Below w.heap.size w w' := by
  rcases hS with rfl | ⟨b, o, rfl, hb, hc⟩
  · have HO : Hid (atV L 0 id = (0, 0, 0)) := hide (at_none (fun j hj => absurd hj (Nat.not_lt_zero _)))
    go_enter Tryd.func58, Tryd.ntmps58
    go_wp2_with fail
    refine wp_loop_rounds 1 ?_
    rw [rounds_succ]
    go_wp2_with fail
    exact bodyPost_ret (v := .agg #[.int .i64 0, .int .i64 0, .int .i64 0]) (by simp [results, Tryd.results58, go_sem]) rfl ⟨by rw [unhide HO]; rfl, below1 _ _⟩
  go_enter Tryd.func58, Tryd.ntmps58
  go_wp2_with fail
  have hv := vecAt_new w 0 0 0 44
  have hf := freeAt_new w 0 0 0 44
  have hB := below1 w (.cells #[.int .i64 0, .int .i64 0, .int .i64 0] 44)
  generalize w.alloc (.cells #[.int .i64 0, .int .i64 0, .int .i64 0] 44) = W at hv hf hB ⊢
  have HC : Hid (∀ i, i < n → StarAt W b (o + i * 4) (stA L i)) := hide (fun i hi => (hc i hi).kept hb hB)
  have HB := hide hB
  clear hc hB
  obtain ⟨v0, v1, v2⟩ := hv
  obtain ⟨f0, f1, f2⟩ := hf
  go_loop [5] (fun i => ∃ k : Nat, k ≤ n ∧ i = .int .i64 k ∧ Hid (noneTo L id k)) (fun i => n - (intOf i).toNat)
  case atStart => exact ⟨0, by omega, rfl, hide (fun j hj => absurd hj (Nat.not_lt_zero _))⟩
  case round =>
    obtain ⟨k, hk, rfl, HF⟩ := hrel
    by_cases hkn : k < n
    · obtain ⟨⟨s1, s2, s3, s4⟩, hs⟩ : ∃ s, stA L k = s := ⟨_, rfl⟩
      have hst := (unhide HC) k hkn
      rw [hs] at hst
      obtain ⟨c0, c1, c2, c3⟩ := hst
      have HT := hide hs
      clear hs
      by_cases hq : s1 = id
      · have HO : Hid (atV L n id = (s2, s3, s4)) := hide (by rw [at_hit hkn (unhide HF) (by rw [unhide HT]; exact hq), unhide HT])
        have hq' : (s1 == id) = true := by simp [hq]
        clear hq
        go_wp2_with fail
        exact bodyPost_ret (v := .agg #[.int .i64 s2, .int .i64 s3, .int .i64 s4]) (by simp [results, Tryd.results58, go_sem, v0, v1, v2]) rfl ⟨by rw [unhide HO]; rfl, below_set3 (unhide HB) (Nat.le_refl _) _ _ _⟩
      · have HF2 := hide (none_step (unhide HF) (by rw [unhide HT]; exact hq))
        have hq' : (s1 == id) = false := by simp [hq]
        clear hq
        go_wp2_with fail
        go_round
        case rel => exact ⟨k + 1, by omega, by go_num, HF2⟩
        case measure => simp [intOf]; omega
    · have hkn' : k = n := by omega
      subst hkn'
      have HO := hide (at_none (unhide HF))
      go_wp2_with fail
      exact bodyPost_ret (v := .agg #[.int .i64 0, .int .i64 0, .int .i64 0]) (by simp [results, Tryd.results58, go_sem, v0, v1, v2]) rfl ⟨by rw [unhide HO]; rfl, below_set3 (unhide HB) (Nat.le_refl _) _ _ _⟩

end Go.Proofs.YtjdehbpgdplolaaDoor
