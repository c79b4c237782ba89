/- A node of the specification's search, and the whole of it. -/
import Derived.Test.YtjdehbpgdplolaaDoorIeB
namespace Go.Proofs.YtjdehbpgdplolaaDoor
open Go.RowKit Go.Sort
set_option linter.unusedVariables false

theorem intL_snoc (ids : List Int) (a : Int) : intL ids ++ [.int .i64 a] = intL (ids ++ [a]) := by unfold intL; rw [List.map_append]; rfl
theorem ids_own {w : World} {B x cap : Nat} {a : Option Addr} {ids : List Int} (h : w.ownsRow B 2 1 (.slice a ids.length cap) ids.length (intL ids)) (hx : x < B) : IdsAt w x a ids := by
  rcases h.2 with ⟨h1, h0⟩ | ⟨g, c', cur, e, hb, hg, hnc, hcm, hcs, htake⟩
  · injection h1 with h1
    exact .inl ⟨List.eq_nil_of_length_eq_zero h0, h1⟩
  · injection e with e1
    refine .inr ⟨g, e1, by omega, (Array.getElem?_eq_some_iff.1 hg).1, fun i hi => ?_⟩
    rw [cell_of_row w g i cur _ _ hg]
    have e4 : cur[i]? = (intL ids)[i]? := by
      rw [← htake, List.getElem?_take, if_pos (by omega)]
      simp
    rw [e4]
    unfold intL
    rw [List.getElem?_map, List.getElem?_eq_getElem hi, List.getD_eq_getElem?_getD, List.getElem?_eq_getElem hi]
    rfl
theorem own_cap0 {w : World} {B n cap : Nat} {a : Option Addr} {xs : List Value} (h : w.ownsRow B 2 1 (.slice a n cap) n xs) (ha : a = none) : cap = 0 := by
  rcases h.2 with ⟨h1, h0⟩ | ⟨g, c', cur, e, _⟩
  · injection h1
  · injection e with e1; rw [ha] at e1; cases e1
theorem gxOwn {w w1 w2 : World} {x : Nat} {row : Option Nat} (h : w.grownBy w1 (some x)) (hg : w1.grownBy w2 row) (hb : ∀ g, row = some g → w.heap.size ≤ g) : w.grownBy w2 (some x) := ⟨hg.os.trans h.os, hg.tape.trans h.tape, hg.output.trans h.output, Nat.le_trans h.size hg.size, fun k hk hn => (hg.block k (Nat.lt_of_lt_of_le hk h.size) (fun e => by have := hb k e.symm; omega)).trans (h.block k hk hn)⟩
theorem own_ge {w : World} {B n : Nat} {v : Value} {xs : List Value} (h : w.ownsRow B 2 1 v n xs) (g : Nat) (e : v.ownBlock = some g) : B ≤ g := by
  rcases h.2 with ⟨h1, _⟩ | ⟨g', c', cur, e', hb, _⟩
  · rw [h1] at e; cases e
  · rw [e'] at e; simp [Value.ownBlock] at e; omega
theorem below_of_gx {w w1 : World} {row : Option Nat} (hg : w.grownBy w1 row) (h : ∀ g, row = some g → w.heap.size ≤ g) : Below w.heap.size w w1 := ⟨hg.os, hg.tape, hg.output, hg.size, fun k hk => hg.block k hk (fun e => by have := h k e.symm; omega)⟩
/-- ids copied, one more put behind them: what is appended to lies anew -/
theorem wpList_oneMore (w : World) {ops : Array Oper} {rest : List Oper} {o : Oper} {a : Act} {Q : Exit → Act → World → Prop} (hgd : o.guard = none) (s x : Operand)
    (ho : o.op = .call { callee := .builtin .append, args := #[s, x], argTypes := #[26, 26] })
    (base : Nat) (v : Value) (ids : List Int) (hs : a.eval s = v) (hown : w.ownsRow base 2 1 v ids.length (intL ids)) (g : Nat) (z : Int) (hx : a.eval x = .slice (some ⟨g, 0, none⟩) 1 1) (hc : w.cell? ⟨g, 0, none⟩ = some (.int .i64 z)) (hk : ids.length ≤ 6) (hbase : base ≤ w.heap.size)
    (h : ∀ v' w', w'.ownsRow base 2 1 v' (ids ++ [z]).length (intL (ids ++ [z])) → w.grownBy w' v.ownBlock → wpList Tryd.prog ops Q rest (a.put o.dst v') w') : wpList Tryd.prog ops Q (o :: rest) a w := by
  obtain ⟨i0, hinf, hz0, hz1, hz2⟩ := info_parts info_i64
  have hm : 7 ≤ maxLen := by decide +kernel
  refine wpList_append_own w hgd s x 26 ho base 2 i0 (.int .i64 0) 1 8 Tryd.underlying26 hinf hz0 hz1 hz2 rfl (by decide) v ids.length (intL ids) hs hown ⟨g, 0, none⟩ 1 1 [.int .i64 z] hx rfl ?_ (fun u hu => by rw [List.mem_singleton.1 hu]; rfl) (by omega) (by omega) hbase ?_
  · intro j u hj
    match j, hj with
    | 0, hj =>
      obtain rfl : Value.int .i64 z = u := by simpa using hj
      have hA : (⟨g, 0, none⟩ : Addr).add 0 = ⟨g, 0, none⟩ := by unfold Addr.add; split <;> simp_all
      rw [hA]
      exact hc
    | j + 1, hj => simp at hj
  · intro v' w' h2 h3 _
    rw [intL_snoc] at h2
    exact h v' w' (by rw [List.length_append]; exact h2) h3
theorem small_snoc {L : List St} {ids : List Int} {a : Int} (h : smallI L ids) (ha : a ≠ 0 → smallB (atV L L.length a).1 (atV L L.length a).2.1 (atV L L.length a).2.2 = true) : smallI L (ids ++ [a]) := by
  intro i hi h0
  rw [List.length_append, List.length_singleton] at hi
  by_cases e : i < ids.length
  · have e1 : (ids ++ [a]).getD i 0 = ids.getD i 0 := by rw [List.getD_eq_getElem?_getD, List.getD_eq_getElem?_getD, List.getElem?_append_left e]
    rw [e1] at h0 ⊢
    exact h i e h0
  · have e1 : (ids ++ [a]).getD i 0 = a := by
      rw [List.getD_eq_getElem?_getD, List.getElem?_append_right (by omega), show i - ids.length = 0 by omega]
      rfl
    rw [e1] at h0 ⊢
    exact ha h0
theorem fold_count (F : List Int → Int → Bool) (A : List Int) : ∀ (r : Nat) (ids : List Int) (s : SeN), s.count ≤ 6 → ids.length + r ≤ 6 → (fromN F A r ids s).count ≤ 6 := by
  intro r ids s h1 h2
  rw [fromN_eq]
  have hall : ∀ l ∈ allN F A r ids, cntN l ≤ 6 := fun l hl => by have := allN_cnt F A r ids l hl; have := cntN_le ids; omega
  generalize allN F A r ids = M at hall
  induction M generalizing s with
  | nil => exact h1
  | cons l M ih =>
    rw [List.foldl_cons]
    refine ih (stepSe s l) ?_ (fun x hx => hall x (by simp [hx]))
    have h3 := stepSe_count s l
    have h4 := hall l (by simp)
    omega
theorem loop_count (F : List Int → Int → Bool) (A : List Int) (r : Nat) (ids : List Int) (s : SeN) (h1 : s.count ≤ 6) (h2 : ids.length + 1 + r ≤ 6) : ∀ i, i ≤ A.length → (loopN F A r ids s i).count ≤ 6
  | 0, _ => h1
  | i + 1, h => by
    rw [loopN_succ F A r ids s (by omega)]
    have h3 := loop_count F A r ids s h1 h2 i (by omega)
    split
    · exact fold_count F A r _ _ h3 (by rw [List.length_append, List.length_singleton]; omega)
    · exact h3
end Go.Proofs.YtjdehbpgdplolaaDoor
