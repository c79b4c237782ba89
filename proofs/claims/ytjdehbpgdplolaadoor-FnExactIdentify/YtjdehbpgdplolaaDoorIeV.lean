/- What the law on Identify does with what was answered: compared, written over, found again. -/
import Derived.Test.YtjdehbpgdplolaaDoorIeU
import Derived.Test.YtjdehbpgdplolaaDoorListI
import Derived.Test.YtjdehbpgdplolaaDoorFrC
import Derived.Test.YtjdehbpgdplolaaDoorL7A
namespace Go.Proofs.YtjdehbpgdplolaaDoor
open Go.RowKit Go.Sort
set_option linter.unusedVariables false

theorem allN_long (F : List Int → Int → Bool) (A : List Int) : ∀ (r : Nat) (ids l : List Int), l ∈ allN F A r ids → l.length = ids.length + r
  | 0, ids, l, h => by
    simp only [allN, List.mem_singleton] at h
    subst h
    omega
  | r + 1, ids, l, h => by
    simp only [allN, List.mem_append, List.mem_flatMap] at h
    rcases h with ⟨a, _, h⟩ | h
    · have := allN_long F A r _ l h
      rw [List.length_append] at this
      simp at this
      omega
    · have := allN_long F A r _ l h
      rw [List.length_append] at this
      simp at this
      omega
theorem foldG_long (m : Nat) : ∀ (X : List (List Int)) (g : List Int × Nat), (∀ l ∈ X, l.length ≤ m) → g.1.length ≤ m → (X.foldl stepG g).1.length ≤ m
  | [], g, _, h => h
  | x :: X, g, hX, h => by
    rw [List.foldl_cons]
    refine foldG_long m X _ (fun l hl => hX l (List.mem_cons_of_mem _ hl)) ?_
    unfold stepG
    split
    · exact h
    · split
      · exact hX x (List.mem_cons_self ..)
      · exact h
theorem identL_len (L : List St) (S : List D3) : (identL L S).length ≤ 6 := by
  by_cases hb : 400 < L.length ∨ 400 < S.length
  · rw [(ident_big hb).1]; simp
  · cases ho : idOk L S
    · rw [(ident_no hb ho).1]; simp
    · rw [(ident_yes hb ho).1, (great_same L S).1]
      have hp : spotsB S = true := by unfold idOk at ho; simp at ho; exact ho.2
      have h6 := (spots_ok hp).1
      split
      · refine Nat.le_trans (foldG_long S.length _ _ (fun l hl => ?_) (by simp)) h6
        have := allN_long _ _ _ _ _ hl
        simp at this
        omega
      · simp
theorem PRow.sliceI {w : World} {t : TypeId} {c lo hi n : Nat} {v : Value} {f : Nat → Value} (h : PRow w t c lo hi n v f) : ∃ a k, v = .slice a n k := by
  rcases h with ⟨rfl, a, k, rfl⟩ | ⟨g, k, rfl, _⟩
  · exact ⟨a, k, rfl⟩
  · exact ⟨_, k, rfl⟩
theorem prow_outI {w' : World} {B : Nat} {ids : List Int} {cnt code : Int} {e : Ending} (h : OutI w' B ids cnt code e) : ∃ a k, e = .returned (.agg #[.slice a ids.length k, .int .i64 cnt, .int .i64 code]) ∧ PRow w' 2 1 B w'.heap.size ids.length (.slice a ids.length k) (valInt64S (fun j => ids.getD j 0) (fun _ => false)) := by
  obtain ⟨v, he, ho⟩ := h
  have hp : PRow w' 2 1 B w'.heap.size ids.length v (valInt64S (fun j => ids.getD j 0) (fun _ => false)) := PRow.of ho (fun j h => by
    have h' : j < ids.length := by omega
    show (ids.map (fun z => Value.int .i64 z))[j]? = some (.int .i64 (ids.getD j 0))
    rw [List.getElem?_map, List.getElem?_eq_getElem h', List.getD_eq_getElem?_getD, List.getElem?_eq_getElem h']
    rfl)
  obtain ⟨a, k, rfl⟩ := hp.sliceI
  exact ⟨a, k, he, hp⟩
theorem prow_outP {w' : World} {B : Nat} {ids : List Int} {cnt code : Int} {e : Ending} (h : OutP w' B ids cnt code e) : ∃ a k, e = .returned (.agg #[.slice a ids.length k, .int .i64 cnt, .int .i64 code]) ∧ PRow w' 2 1 B w'.heap.size ids.length (.slice a ids.length k) (valInt64S (fun j => ids.getD j 0) (fun _ => false)) := by
  obtain ⟨v, he, ho⟩ := h
  rcases ho with ⟨h0, rfl⟩ | ⟨g, rfl, hg, hr⟩
  · exact ⟨none, 0, by rw [he, h0]; rfl, .inl ⟨by rw [h0]; rfl, none, 0, by rw [h0]; rfl⟩⟩
  · exact ⟨_, _, he, .inr ⟨g, _, rfl, hg, hr.lt, hr⟩⟩
set_option maxHeartbeats 1000000 in
set_option maxRecDepth 100000 in
theorem eqIdentOut_any (n lo hi lo' hi' : Nat) (v v' : Value) (cnt code : Int) (fI : Nat → Int) (fB : Nat → Bool) (w : World) (hn : n ≤ 1048576) (h : PRow w 2 1 lo hi n v (valInt64S fI fB)) (h' : PRow w 2 1 lo' hi' n v' (valInt64S fI fB)) :
    Calls Tryd.prog 10 #[.agg #[v, .int .i64 cnt, .int .i64 code], .agg #[v', .int .i64 cnt, .int .i64 code]] w fun e w' => e = .returned (.bool true) ∧ Below w.heap.size w w' := by
  obtain ⟨a, k, rfl⟩ := h.sliceI
  obtain ⟨a', k', rfl⟩ := h'.sliceI
  have B1 := below2 w (.cells #[.slice a n k, .int .i64 cnt, .int .i64 code] 28) (.cells #[.slice a' n k', .int .i64 cnt, .int .i64 code] 28)
  have O1 := (blk_new w [.slice a n k, .int .i64 cnt, .int .i64 code] 28).alloc (.cells #[.slice a' n k', .int .i64 cnt, .int .i64 code] 28)
  have O2 := blk_new (w.alloc (.cells #[.slice a n k, .int .i64 cnt, .int .i64 code] 28)) [.slice a' n k', .int .i64 cnt, .int .i64 code] 28
  have e1 : (w.alloc (.cells #[.slice a n k, .int .i64 cnt, .int .i64 code] 28)).heap.size = w.heap.size + 1 := by simp
  rw [e1] at O2
  clear e1
  go_enter Tryd.func10, Tryd.ntmps10
  go_wp2_with fail
  refine (eqInt64S_any n lo hi lo' hi' _ _ fI fB _ hn (h.kept B1) (h'.kept B1)).mono ?_
  rintro e w1 ⟨rfl, hx⟩
  have p1 := (O1.kept hx).cell 1 _ rfl
  have q1 := (O2.kept hx).cell 1 _ rfl
  have p2 := (O1.kept hx).cell 2 _ rfl
  have q2 := (O2.kept hx).cell 2 _ rfl
  have B2 := below_call B1 hx
  clear hx B1 O1 O2
  go_wp2_with fail
  go_ret
  exact ⟨rfl, B2⟩
set_option maxHeartbeats 1000000 in
set_option maxRecDepth 100000 in
theorem markIdentOut_any (n lo hi : Nat) (v : Value) (cnt code : Int) (f : Nat → Value) (w : World) (hn : n ≤ 1048576) (hb : hi ≤ w.heap.size) (h : PRow w 2 1 lo hi n v f) :
    Calls Tryd.prog 15 #[.agg #[v, .int .i64 cnt, .int .i64 code], .int .i64 1] w fun e w' => e = .returned (.int .i64 (1 + (n : Int))) ∧ PRow w' 2 1 lo hi n v markInt64SV ∧ ∃ w1, Below w.heap.size w w1 ∧ Apart lo hi w1 w' := by
  obtain ⟨a, k, rfl⟩ := h.sliceI
  have B1 := below1 w (.cells #[.slice a n k, .int .i64 cnt, .int .i64 code] 28)
  go_enter Tryd.func15, Tryd.ntmps15
  go_wp2_with fail
  refine (markInt64S_any n lo hi _ f _ hn (h.kept B1)).mono ?_
  rintro e w1 ⟨rfl, hp, ha⟩
  go_wp2_with fail
  go_ret
  exact ⟨rfl, hp, _, B1, ha⟩
set_option maxHeartbeats 1000000 in
set_option maxRecDepth 100000 in
theorem heldIdentOut_any (n lo hi : Nat) (v : Value) (cnt code : Int) (w : World) (hn : n ≤ 1048576) (h : PRow w 2 1 lo hi n v markInt64SV) :
    Calls Tryd.prog 16 #[.agg #[v, .int .i64 cnt, .int .i64 code], .int .i64 1] w fun e w' => e = .returned (.int .i64 (1 + (n : Int))) ∧ Below w.heap.size w w' := by
  obtain ⟨a, k, rfl⟩ := h.sliceI
  have B1 := below1 w (.cells #[.slice a n k, .int .i64 cnt, .int .i64 code] 28)
  have cH := hide (heldInt64S_any n lo hi _ _ hn (h.kept B1))
  obtain ⟨K, hK⟩ : ∃ K : Int, K = 1 + (n : Int) := ⟨_, rfl⟩
  rw [← hK] at cH ⊢
  have hk0 : ¬ K < 0 := by omega
  clear hK
  go_enter Tryd.func16, Tryd.ntmps16
  go_wp2_with fail
  refine (unhide cH).mono ?_
  rintro e w1 ⟨rfl, rfl⟩
  go_wp2_with fail
  go_ret
  exact ⟨rfl, B1⟩
end Go.Proofs.YtjdehbpgdplolaaDoor
