/- What the laws of chapter 7 do besides: rows written over from any number on, lists of numbers copied. -/
import Derived.Test.YtdkfbfiofniblaaDoorSkyG
import Derived.Test.YtdkfbfiofniblaaDoorIdC
import Derived.Test.YtdkfbfiofniblaaDoorMarkS
import Derived.Test.YtdkfbfiofniblaaDoorListI
import Derived.Test.YtdkfbfiofniblaaDoorMaA
namespace Go.Proofs.YtdkfbfiofniblaaDoor
open Go.RowKit Go.Sort
set_option linter.unusedVariables false

theorem rowOfStars {w : World} {b n : Nat} {L : List St} (h : OwnS w b n L n) : ∃ f, RowAt w 61 b (n * 4) f := by
  obtain ⟨cur, hc, hn, hs⟩ := h
  refine ⟨fun j => match cur[j]? with | some (.int _ v) => v | _ => 0, cur, hc, fun j hj => ?_⟩
  obtain ⟨h0, h1, h2, h3⟩ := hs (j / 4) (by omega)
  have hm : j = j / 4 * 4 ∨ j = j / 4 * 4 + 1 ∨ j = j / 4 * 4 + 2 ∨ j = j / 4 * 4 + 3 := by omega
  have e : ∃ z : Int, cur[j]? = some (.int .i64 z) := by
    rcases hm with e | e | e | e
    · exact ⟨_, by rw [e]; exact h0⟩
    · exact ⟨_, by rw [e]; exact h1⟩
    · exact ⟨_, by rw [e]; exact h2⟩
    · exact ⟨_, by rw [e]; exact h3⟩
  obtain ⟨z, hz⟩ := e
  simp only [hz]
theorem rowOfDirs {w : World} {b n : Nat} {L : List D3} (h : OwnD w b n L n) : ∃ f, RowV w 59 b (n * 3) f := by
  obtain ⟨cur, hc, hn, hs⟩ := h
  refine ⟨fun j => cur.getD j .nilIface, cur, hc, fun j hj => ?_⟩
  simp [Array.getD, show j < cur.size by omega]
set_option maxRecDepth 100000 in
theorem toTurn7 (p q r s : Int) (w : World) :
    Calls Tryd.prog 25 #[.agg #[.int .i64 p, .int .i64 q, .int .i64 r, .int .i64 s]] w fun e w' => e = .returned (.agg #[.int .i64 p, .int .i64 q, .int .i64 r, .int .i64 s]) ∧ Below w.heap.size w w' := by
  go_enter Tryd.func25, Tryd.ntmps25
  go_wp2
  exact bodyPost_ret (v := .agg #[.int .i64 p, .int .i64 q, .int .i64 r, .int .i64 s]) (by simp [results, Tryd.results25, go_sem]) rfl ⟨rfl, below3 _ _ _ _⟩
set_option maxHeartbeats 2000000 in
set_option maxRecDepth 100000 in
theorem markVecS_from (n c g : Nat) (K : Int) (f : Nat → Value) (w : World) (hn : n ≤ 1048576) (hK0 : 0 ≤ K) (hK1 : K ≤ 100000000) (hR : RowV w 59 g (n * 3) f) :
    Calls Tryd.prog 21 #[.slice (some ⟨g, 0, none⟩) n c, .int .i64 K] w fun e w' => e = .returned (.int .i64 (K + (n : Int) * 3)) ∧ w.grownBy w' (some g) := by
  have HR := hide hR
  clear hR
  go_enter Tryd.func21, Tryd.ntmps21
  go_wp2_with fail
  go_loopw [1, 5] (fun k i wr => ∃ q : Nat, q ≤ n ∧ i = .int .i64 q ∧ k = .int .i64 (K + (q : Int) * 3) ∧ Hid (∃ f, RowV wr 59 g (n * 3) f) ∧ Hid (w.grownBy wr (some g))) (fun _ i _ => n - (intOf i).toNat)
  case atStart => exact ⟨0, by omega, rfl, by simp, hide ⟨_, unhide HR⟩, hide (gRefl w _)⟩
  case round =>
    obtain ⟨q, hq, rfl, rfl, HO, HG⟩ := hrel
    by_cases hqn : q < n
    · have hqn2 : (q : Int) < (n : Int) := by omega
      obtain ⟨f1, hr⟩ := unhide HO
      have e0 := hr.cell (j := q * 3) (by omega)
      have f0 := hr.free (q * 3)
      have e1 := hr.cell (j := q * 3 + 1) (by omega)
      have f1' := hr.free (q * 3 + 1)
      have e2 := hr.cell (j := q * 3 + 2) (by omega)
      have f2 := hr.free (q * 3 + 2)
      have R1 := hr.set (q * 3) (.int .i64 (K + (q : Int) * 3))
      have R2 := R1.set (q * 3 + 1) (.int .i64 (K + (q : Int) * 3 + 1))
      have R3 := R2.set (q * 3 + 2) (.int .i64 (K + (q : Int) * 3 + 1 + 1))
      have HO2 : Hid (∃ f, RowV _ 59 g (n * 3) f) := hide ⟨_, R3⟩
      have HG2 := hide (gSet (gSet (gSet (unhide HG) (q * 3) (.int .i64 (K + (q : Int) * 3))) (q * 3 + 1) (.int .i64 (K + (q : Int) * 3 + 1))) (q * 3 + 2) (.int .i64 (K + (q : Int) * 3 + 1 + 1)))
      clear R1 R2 R3 hr HO HG
      go_wp2_with fail
      go_roundw
      case rel => exact ⟨q + 1, by omega, by go_num, by go_num, HO2, HG2⟩
      case measure => simp [intOf]; omega
    · have hqn' : q = n := by omega
      subst hqn'
      go_wp2_with fail
      go_ret
      exact ⟨rfl, unhide HG⟩
/-- the first n numbers of ids lie at a -/
def Nums (w : World) (a : Option Addr) (ids : List Int) (n : Nat) : Prop := n = 0 ∨ ∃ b o, a = some ⟨b, o, none⟩ ∧ b < w.heap.size ∧ ∀ i, i < n → w.cell? ⟨b, o + i, none⟩ = some (.int .i64 (ids.getD i 0))
theorem Nums.kept {w w' : World} {a : Option Addr} {L : List Int} {n : Nat} (h : Nums w a L n) (hB : Below w.heap.size w w') : Nums w' a L n := by
  rcases h with h | ⟨b, o, ha, hb, hc⟩
  · exact .inl h
  · exact .inr ⟨b, o, ha, Nat.lt_of_lt_of_le hb hB.size, fun i hi => by rw [hB.cell (p := ⟨b, o + i, none⟩) hb]; exact hc i hi⟩
def numV (ids : List Int) (j : Nat) : Value := .int .i64 (ids.getD j 0)
theorem nums_of {w : World} {g n : Nat} {ids : List Int} (h : RowV w 2 g (n * 1) (numV ids)) : Nums w (some ⟨g, 0, none⟩) ids n :=
  .inr ⟨g, 0, rfl, h.lt, fun i hi => by rw [Nat.zero_add]; exact h.cell (by omega)⟩
theorem prow_of {w : World} {t : TypeId} {g n c : Nat} {f : Nat → Value} (h : RowV w t g (n * c) f) (cap : Nat) : PRow w t c 0 w.heap.size n (.slice (some ⟨g, 0, none⟩) n cap) f := .inr ⟨g, cap, rfl, Nat.zero_le _, h.lt, h⟩
set_option maxHeartbeats 1000000 in
set_option maxRecDepth 100000 in
theorem toInt64S_any (ids : List Int) (n : Nat) (a : Option Addr) (c : Nat) (w : World) (hn : n ≤ 1048576) (hS : Nums w a ids n) :
    Calls Tryd.prog 12 #[.slice a n c] w fun e w' => e = .returned (.slice (some ⟨w.heap.size, 0, none⟩) n n) ∧ RowV w' 2 w.heap.size (n * 1) (numV ids) ∧ Below w.heap.size w w' := by
  have HS := hide hS
  clear hS
  obtain ⟨i0, hi, hz0, hz1, hz2⟩ := info_parts info_i64
  go_enter Tryd.func12, Tryd.ntmps12
  go_wp2_with (at_make; refine wpList_make_full _ rfl _ _ 24 rfl w.heap.size 2 i0 (.int .i64 0) 1 Tryd.underlying24 hi hz0 hz1 .i64 .i64 _ _ n rfl rfl rfl rfl (by rw [hz2]; omega) (by unfold maxLen; omega) (Nat.le_refl _) ?_; intro w0 hown0 hgrow0)
  have hzero : ∀ j, j < n * 1 → (madeCells (Value.int .i64 0).cells (n * 1)).toList[j]? = some (.int .i64 0) := by
    intro j hj
    have e : (Value.int .i64 0).cells = #[.int .i64 0] := rfl
    rw [e, toList_madeCells_one]
    simp at hj
    simp [hj]
  have H0 : Hid (RowV w0 2 w.heap.size (n * 1) (fun j => if j < 0 then numV ids j else .int .i64 0)) := hide ((RowV.made (v := .nilIface) hown0 hzero).congr (fun j hj => by rw [if_neg (by omega)]))
  have HB0 := hide (below_grownN hgrow0)
  clear hown0 hgrow0 hzero
  rcases unhide HS with rfl | ⟨b, o, rfl, hb, hc⟩
  · refine wp_loop_rounds 1 ?_
    rw [rounds_succ]
    go_wp2_with fail
    go_ret
    exact ⟨rfl, (unhide H0).congr (fun j hj => by omega), unhide HB0⟩
  have HC := hide hc
  clear hc
  go_loopw [4] (fun i wr => ∃ k : Nat, k ≤ n ∧ i = .int .i64 k ∧ Hid (RowV wr 2 w.heap.size (n * 1) (fun j => if j < k then numV ids j else .int .i64 0)) ∧ Hid (Below w.heap.size w wr)) (fun i _ => n - (intOf i).toNat)
  case atStart => exact ⟨0, by omega, rfl, H0, HB0⟩
  case round =>
    clear H0 HB0
    obtain ⟨k, hk, rfl, HO, HB⟩ := hrel
    by_cases hkn : k < n
    · have c0 : wr.cell? ⟨b, o + k, none⟩ = some (.int .i64 (ids.getD k 0)) := by rw [(unhide HB).cell (p := ⟨b, o + k, none⟩) hb]; exact unhide HC k hkn
      have HN : Hid (numV ids k = .int .i64 (ids.getD k 0)) := hide rfl
      generalize ids.getD k 0 = z at *
      have hkn2 : (k : Int) < (n : Int) := by omega
      have e0 := (unhide HO).cell (j := k) (by omega)
      have f0 := (unhide HO).free k
      rw [if_neg (by omega)] at e0
      have HO3 : Hid (RowV (wr.setCell ⟨w.heap.size, k, none⟩ (.int .i64 z)) 2 w.heap.size (n * 1) (fun j => if j < k + 1 then numV ids j else .int .i64 0)) := hide (((unhide HO).set k (.int .i64 z)).congr (fun j hj => by
        by_cases h : j = k
        · rw [if_pos h, if_pos (by omega), h, unhide HN]
        · rw [if_neg h]
          by_cases h2 : j < k
          · rw [if_pos h2, if_pos (by omega)]
          · rw [if_neg h2, if_neg (by omega)]))
      have HB3 := hide ((unhide HB).setCell (show w.heap.size ≤ w.heap.size from Nat.le_refl _) (.int .i64 z) : Below w.heap.size w (wr.setCell ⟨w.heap.size, k, none⟩ (.int .i64 z)))
      clear HO HB
      go_wp2_with fail
      go_roundw
      case rel => exact ⟨k + 1, by omega, by go_num, HO3, HB3⟩
      case measure => simp [intOf]; omega
    · have hkn' : k = n := by omega
      subst hkn'
      go_wp2_with fail
      go_ret
      exact ⟨rfl, (unhide HO).congr (fun j hj => if_pos (by omega)), unhide HB⟩
end Go.Proofs.YtdkfbfiofniblaaDoor
