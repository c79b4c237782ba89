/- Turns: the program's and the specification's. -/
import Derived.Test.YtdkfbfiofniblaaDoorTurnB
import Derived.Test.YtdkfbfiofniblaaDoorTurnC
import Derived.OwnWalk
import Derived.Laws.OwnMore
namespace Go.Proofs.YtdkfbfiofniblaaDoor
open Go.RowKit Go.Sort
set_option linter.unusedVariables false

theorem oKept {w w' : World} {B : Nat} {t : TypeId} {v : Value} {n m : Nat} {xs : List Value} (h : w.ownsRow B t m v n xs) (hB : Below w.heap.size w w') : w'.ownsRow B t m v n xs :=
  h.kept (row := none) ⟨hB.os, hB.tape, hB.output, hB.size, fun k hk _ => hB.block k hk⟩ (by cases hv : v.ownBlock <;> simp)
theorem oSlice {w : World} {B : Nat} {t : TypeId} {v : Value} {n m : Nat} {xs : List Value} (h : w.ownsRow B t m v n xs) : ∃ a c, v = .slice a n c := by
  rcases h.2 with ⟨h1, h0⟩ | ⟨g, cap, cur, hv, _⟩
  · exact ⟨none, 0, by rw [h1, h0]⟩
  · exact ⟨_, _, hv⟩
theorem oBelow {B : Nat} {w w1 w2 : World} {v : Value} {t : TypeId} {n m : Nat} {xs : List Value} (h : Below B w w1) (ho : w1.ownsRow B t m v n xs) (hg : w1.grownBy w2 v.ownBlock) (hB : B ≤ w1.heap.size) : Below B w w2 :=
  h.trans ⟨hg.os, hg.tape, hg.output, hg.size, fun k hk => hg.block k (by omega) (fun e => by have := (ho.lt k e.symm).1; omega)⟩
theorem new_cells (w : World) (vs : List Value) (t : TypeId) : ∀ (j : Nat) (u : Value), vs[j]? = some u → (w.alloc (.cells vs.toArray t)).cell? ((⟨w.heap.size, 0, none⟩ : Addr).add j) = some u := by
  intro j u hj
  have e : (⟨w.heap.size, 0, none⟩ : Addr).add j = ⟨w.heap.size, j, none⟩ := by cases j <;> simp [Addr.add]
  rw [e]
  simp [hj]
abbrev T4 := Int × Int × Int × Int
theorem info_turn : (Tryd.prog.info? 48).map (fun i => (i.zero, i.size, i.bytes)) = some (some (.agg #[.int .i64 0, .int .i64 0, .int .i64 0, .int .i64 0]), 4, 32) := by kernel_rfl
def turn4 (t : T4) : List Value := [.int .i64 t.1, .int .i64 t.2.1, .int .i64 t.2.2.1, .int .i64 t.2.2.2]
def flatT (S : List T4) : List Value := S.flatMap turn4
theorem flatT_app (A B : List T4) : flatT (A ++ B) = flatT A ++ flatT B := by unfold flatT; rw [List.flatMap_append]
theorem flatT_cell {S : List T4} {v : Value} (h : v ∈ flatT S) : v.oneCell' = true := by
  unfold flatT at h
  rw [List.mem_flatMap] at h
  obtain ⟨p, _, hp⟩ := h
  simp [turn4] at hp
  rcases hp with rfl | rfl | rfl | rfl <;> rfl
/-- the turn of the number n, whose digits to the base of five are its parts -/
def tOf (n : Nat) : T4 := ((n : Int) / 125 - 2, (n : Int) / 25 % 5 - 2, (n : Int) / 5 % 5 - 2, (n : Int) % 5 - 2)
def goodT (t : T4) : Bool := rightT t.1 t.2.1 t.2.2.1 t.2.2.2
def turnsTo (k : Nat) : List T4 := ((List.range k).map tOf).filter goodT
theorem turns_len (k : Nat) : (turnsTo k).length ≤ k := by
  have h := List.length_filter_le goodT ((List.range k).map tOf)
  rw [List.length_map, List.length_range] at h
  exact h
theorem turns_snoc (k : Nat) : turnsTo (k + 1) = turnsTo k ++ (if goodT (tOf k) = true then [tOf k] else []) := by
  unfold turnsTo
  rw [List.range_succ, List.map_append, List.filter_append]
  congr 1
  cases h : goodT (tOf k)
  · rw [List.map_singleton, List.filter_cons_of_neg (by simp [h])]; rfl
  · rw [List.map_singleton, List.filter_cons_of_pos h]; rfl
theorem tOf_at (a b c d : Nat) (hb : b < 5) (hc : c < 5) (hd : d < 5) : tOf (a * 125 + b * 25 + c * 5 + d) = ((a : Int) - 2, (b : Int) - 2, (c : Int) - 2, (d : Int) - 2) := by
  unfold tOf
  have e1 : ((a * 125 + b * 25 + c * 5 + d : Nat) : Int) / 125 = a := by omega
  have e2 : ((a * 125 + b * 25 + c * 5 + d : Nat) : Int) / 25 % 5 = b := by omega
  have e3 : ((a * 125 + b * 25 + c * 5 + d : Nat) : Int) / 5 % 5 = c := by omega
  have e4 : ((a * 125 + b * 25 + c * 5 + d : Nat) : Int) % 5 = d := by omega
  rw [e1, e2, e3, e4]
theorem ownT_none (w : World) (B : Nat) (h : B ≤ w.heap.size) : (w.alloc (.cells #[] 48)).ownsRow B 48 4 (.slice (some ⟨w.heap.size, 0, none⟩) 0 0) 0 (flatT []) :=
  ⟨rfl, .inr ⟨_, 0, #[], rfl, h, Array.getElem?_push_size, Nat.le_refl _, Nat.zero_le _, rfl, rfl⟩⟩
set_option maxHeartbeats 4000000 in
set_option maxRecDepth 100000 in
theorem implTurns_any (w : World) :
    Calls Tryd.prog 53 #[] w fun e w' => (∃ v, e = .returned v ∧ w'.ownsRow w.heap.size 48 4 v (turnsTo 625).length (flatT (turnsTo 625))) ∧ Below w.heap.size w w' := by
  obtain ⟨i0, hinf, hz0, hz1, hz2⟩ := info_parts info_turn
  have hm8 : 1000 ≤ maxLen := by decide +kernel
  go_enter Tryd.func53, Tryd.ntmps53
  go_wp2_with fail
  go_loopw [1, 4] (fun v kk wr => ∃ k : Nat, k ≤ 625 ∧ kk = .int .i64 k ∧ Hid (wr.ownsRow w.heap.size 48 4 v (turnsTo k).length (flatT (turnsTo k))) ∧ Hid (Below w.heap.size w wr)) (fun _ kk _ => 625 - (intOf kk).toNat)
  case atStart => exact ⟨0, by omega, rfl, hide (World.ownsRow_nil _ _ _ _), hide (Below.refl _ _)⟩
  case round =>
    obtain ⟨k, hk, rfl, HO, HB⟩ := hrel
    by_cases hkn : k < 625
    · have hkn2 : (k : Int) < 625 := by omega
      have HSN : Hid (turnsTo (k + 1) = turnsTo k ++ (if goodT ((k : Int) / 125 - 2, (k : Int) / 25 % 5 - 2, (k : Int) / 5 % 5 - 2, (k : Int) % 5 - 2) = true then [((k : Int) / 125 - 2, (k : Int) / 25 % 5 - 2, (k : Int) / 5 % 5 - 2, (k : Int) % 5 - 2)] else [])) := hide (turns_snoc k)
      have hpl := turns_len k
      have Z := below1 wr (.cells #[.int .i64 ((k : Int) / 125 - 2), .int .i64 ((k : Int) / 25 % 5 - 2), .int .i64 ((k : Int) / 5 % 5 - 2), .int .i64 ((k : Int) % 5 - 2)] 48)
      have HB1 := hide (below_call (unhide HB) Z)
      have HO1 := hide (oKept (unhide HO) Z)
      have TA1 := turnAt_new wr ((k : Int) / 125 - 2) ((k : Int) / 25 % 5 - 2) ((k : Int) / 5 % 5 - 2) ((k : Int) % 5 - 2) 48
      clear Z HO HB
      go_wp2_with fail
      generalize (k : Int) / 125 - 2 = p at *
      generalize (k : Int) / 25 % 5 - 2 = q at *
      generalize (k : Int) / 5 % 5 - 2 = r at *
      generalize (k : Int) % 5 - 2 = s at *
      generalize wr.alloc (.cells #[.int .i64 p, .int .i64 q, .int .i64 r, .int .i64 s] 48) = W1 at HB1 HO1 TA1 ⊢
      refine (turnRight_any p q r s _).mono ?_
      rintro e W2 ⟨rfl, hx⟩
      have TA2 := TA1.kept TA1.lt hx
      have HB2 := hide (below_call (unhide HB1) hx)
      have HO2 := hide (oKept (unhide HO1) hx)
      clear hx TA1 HB1 HO1
      have HG : Hid (goodT (p, q, r, s) = rightT p q r s) := hide rfl
      generalize wr.heap.size = tb at *
      cases hr : rightT p q r s
      · rw [hr] at HG
        rw [unhide HG, if_neg (by simp), List.append_nil] at HSN
        have HO3 : Hid (W2.ownsRow w.heap.size 48 4 u1 (turnsTo (k + 1)).length (flatT (turnsTo (k + 1)))) := hide (by rw [unhide HSN]; exact unhide HO2)
        go_wp2_with fail
        go_roundw
        case rel => exact ⟨k + 1, by omega, by go_num, HO3, HB2⟩
        case measure => simp [intOf] <;> omega
      · rw [hr] at HG
        rw [unhide HG, if_pos rfl] at HSN
        obtain ⟨e0, e1, e2, e3⟩ := TA2
        have Z1 := below1 W2 (.cells #[.int .i64 p, .int .i64 q, .int .i64 r, .int .i64 s] 48)
        have hown := oKept (unhide HO2) Z1
        have B3 := below_call (unhide HB2) Z1
        have hsz := (unhide HB2).size
        clear Z1 HO2 HB2
        generalize turnsTo k = Pk at *
        go_wp2_with (at_builtin; refine wpList_append_own _ rfl _ _ 84 rfl w.heap.size 48 i0 (.agg #[.int .i64 0, .int .i64 0, .int .i64 0, .int .i64 0]) 4 32 Tryd.underlying84 hinf hz0 hz1 hz2 rfl (by decide) _ _ _ rfl hown ⟨W2.heap.size, 0, none⟩ 1 1 (flatT [(p, q, r, s)]) rfl rfl ?d2 (fun u hu => flatT_cell hu) ?d3 ?d4 ?d5 ?_)
        case d2 => first | exact fun j u h => h | exact new_cells _ _ _
        case d3 => omega
        case d4 => omega
        case d5 => first | omega | (simp; omega)
        intro v7 V7 hown7 hgrow7 _
        have HB8 := hide (oBelow B3 hown hgrow7 (by simp; omega))
        have HO8 : Hid (V7.ownsRow w.heap.size 48 4 v7 (turnsTo (k + 1)).length (flatT (turnsTo (k + 1)))) := hide (by rw [unhide HSN, flatT_app, List.length_append]; exact hown7)
        clear hown7 hgrow7 hown B3 e0 e1 e2 e3
        go_wp2_with fail
        go_roundw
        case rel => exact ⟨k + 1, by omega, by go_num, HO8, HB8⟩
        case measure => simp [intOf] <;> omega
    · have hke : k = 625 := by omega
      subst hke
      go_wp2_with fail
      go_ret
      exact ⟨⟨_, rfl, unhide HO⟩, unhide HB⟩
end Go.Proofs.YtdkfbfiofniblaaDoor
