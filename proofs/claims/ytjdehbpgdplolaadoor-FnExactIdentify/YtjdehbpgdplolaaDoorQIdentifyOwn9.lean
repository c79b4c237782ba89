/- Several texts in one: TsA, NaB, NaC, MaB, NaD, NaE, IdW, L7B. -/
import Derived.OwnWalk
import Derived.Laws.OwnMore
import Derived.Deep.RegionHeld
import Derived.WalkMore
import Derived.Test.YtjdehbpgdplolaaDoorRows
import Derived.Deep.Slices
import Derived.Deep.Strs
import Derived.LaidHandle
import Derived.LaidMore
import Derived.ProofKit
import Derived.WideShapes
import Derived.Test.YtjdehbpgdplolaaDoorQIdentifyOwn8
import Derived.Test.YtjdehbpgdplolaaDoorQIdentifyOwn7
import Derived.Test.YtjdehbpgdplolaaDoorQIdentifyOwn5
import Derived.Test.YtjdehbpgdplolaaDoorQIdentifyOwn3
namespace Go.Proofs.YtjdehbpgdplolaaDoor
open Go.RowKit Go.Sort
set_option linter.unusedVariables false

theorem oKept {w w' : World} {B : Nat} {t : TypeId} {v : Value} {n m : Nat} {xs : List Value} (h : w.ownsRow B t m v n xs) (hB : Below w.heap.size w w') : w'.ownsRow B t m v n xs :=
  h.kept (row := none) ⟨hB.os, hB.tape, hB.output, hB.size, fun k hk _ => hB.block k hk⟩ (by cases hv : v.ownBlock <;> simp)
theorem oSlice {w : World} {B : Nat} {t : TypeId} {v : Value} {n m : Nat} {xs : List Value} (h : w.ownsRow B t m v n xs) : ∃ a c, v = .slice a n c := by
  rcases h.2 with ⟨h1, h0⟩ | ⟨g, cap, cur, hv, _⟩
  · exact ⟨none, 0, by rw [h1, h0]⟩
  · exact ⟨_, _, hv⟩
theorem oBelow {B : Nat} {w w1 w2 : World} {v : Value} {t : TypeId} {n m : Nat} {xs : List Value} (h : Below B w w1) (ho : w1.ownsRow B t m v n xs) (hg : w1.grownBy w2 v.ownBlock) (hB : B ≤ w1.heap.size) : Below B w w2 :=
  h.trans ⟨hg.os, hg.tape, hg.output, hg.size, fun k hk => hg.block k (by omega) (fun e => by have := (ho.lt k e.symm).1; omega)⟩
theorem new_cells (w : World) (vs : List Value) (t : TypeId) : ∀ (j : Nat) (u : Value), vs[j]? = some u → (w.alloc (.cells vs.toArray t)).cell? ((⟨w.heap.size, 0, none⟩ : Addr).add j) = some u := by
  intro j u hj
  have e : (⟨w.heap.size, 0, none⟩ : Addr).add j = ⟨w.heap.size, j, none⟩ := by cases j <;> simp [Addr.add]
  rw [e]
  simp [hj]
abbrev T4 := Int × Int × Int × Int
def turn4 (t : T4) : List Value := [.int .i64 t.1, .int .i64 t.2.1, .int .i64 t.2.2.1, .int .i64 t.2.2.2]
def flatT (S : List T4) : List Value := S.flatMap turn4
theorem flatT_app (A B : List T4) : flatT (A ++ B) = flatT A ++ flatT B := by unfold flatT; rw [List.flatMap_append]
theorem flatT_cell {S : List T4} {v : Value} (h : v ∈ flatT S) : v.oneCell' = true := by
  unfold flatT at h
  rw [List.mem_flatMap] at h
  obtain ⟨p, _, hp⟩ := h
  simp [turn4] at hp
  rcases hp with rfl | rfl | rfl | rfl <;> rfl
/-- the turn of the number n, whose digits to the base of five are its parts -/
def tOf (n : Nat) : T4 := ((n : Int) / 125 - 2, (n : Int) / 25 % 5 - 2, (n : Int) / 5 % 5 - 2, (n : Int) % 5 - 2)
def goodT (t : T4) : Bool := rightT t.1 t.2.1 t.2.2.1 t.2.2.2
def turnsTo (k : Nat) : List T4 := ((List.range k).map tOf).filter goodT
theorem turns_len (k : Nat) : (turnsTo k).length ≤ k := by
  have h := List.length_filter_le goodT ((List.range k).map tOf)
  rw [List.length_map, List.length_range] at h
  exact h
theorem turns_snoc (k : Nat) : turnsTo (k + 1) = turnsTo k ++ (if goodT (tOf k) = true then [tOf k] else []) := by
  unfold turnsTo
  rw [List.range_succ, List.map_append, List.filter_append]
  congr 1
  cases h : goodT (tOf k)
  · rw [List.map_singleton, List.filter_cons_of_neg (by simp [h])]; rfl
  · rw [List.map_singleton, List.filter_cons_of_pos h]; rfl
theorem tOf_at (a b c d : Nat) (hb : b < 5) (hc : c < 5) (hd : d < 5) : tOf (a * 125 + b * 25 + c * 5 + d) = ((a : Int) - 2, (b : Int) - 2, (c : Int) - 2, (d : Int) - 2) := by
  unfold tOf
  have e1 : ((a * 125 + b * 25 + c * 5 + d : Nat) : Int) / 125 = a := by omega
  have e2 : ((a * 125 + b * 25 + c * 5 + d : Nat) : Int) / 25 % 5 = b := by omega
  have e3 : ((a * 125 + b * 25 + c * 5 + d : Nat) : Int) / 5 % 5 = c := by omega
  have e4 : ((a * 125 + b * 25 + c * 5 + d : Nat) : Int) % 5 = d := by omega
  rw [e1, e2, e3, e4]
end Go.Proofs.YtjdehbpgdplolaaDoor

namespace Go.Proofs.YtjdehbpgdplolaaDoor
open Go.RowKit Go.Sort
set_option linter.unusedVariables false
set_option linter.unusedSimpArgs false

theorem step_append7 {P : Program} {ops : Array Oper} {o : Oper} {a : Act} {w : World} {K : Act → World → Prop} {Q : Exit → Act → World → Prop} {E : Prop} (hgd : o.guard = none) (s x : Operand) (t : TypeId)
    (ho : o.op = .call { callee := .builtin .append, args := #[s, x], argTypes := #[t, t] })
    (base : Nat) (e : TypeId) (i : TypeInfo) (z : Value) (size bytes : Nat) (ht : P.underlying t = some (.slice e)) (hi : P.info? e = some i) (hz : i.zero = some z)
    (hsize : i.size = size) (hby : i.bytes = bytes) (hzs : z.cells.size = size) (hsz : 0 < size)
    (v : Value) (n : Nat) (xs : List Value) (hs : a.eval s = v) (hown : w.ownsRow base e size v n xs)
    (ad : Addr) (m c : Nat) (news : List Value) (hx : a.eval x = .slice (some ad) m c) (hl : news.length = m * size) (hnews : ∀ j u, news[j]? = some u → w.cell? (ad.add j) = some u) (h1 : ∀ u ∈ news, u.oneCell' = true)
    (h63 : n + m ≤ maxLen) (hbytes : (n + m) * bytes ≤ 140737488355328) (hbase : base ≤ w.heap.size)
    (h : ∀ v' w', w'.ownsRow base e size v' (n + m) (xs ++ news) → w.grownBy w' v.ownBlock → K (a.put o.dst v') w') : if Region.wanted o (yielded ops a.tmps) = true then Oper.wp P o a w K Q else E := by
  have hw : Region.wanted o (yielded ops a.tmps) = true := by simp [Region.wanted, hgd]
  rw [if_pos hw]
  exact wp_append_own w s x t ho base e i z size bytes ht hi hz hsize hby hzs hsz v n xs hs hown ad m c news hx hl hnews h1 h63 hbytes hbase fun v' w' h2 h3 _ => h v' w' h2 h3
theorem cellKept {w w' : World} {a : Addr} {v : Value} (h : w.cell? a = some v) (hB : Below w.heap.size w w') : w'.cell? a = some v := (hB.cell (World.block_lt_of_cell? w a h)).trans h
theorem cellGrown {w w' : World} {a : Addr} {v : Value} {row : Option Nat} (h : w.cell? a = some v) (hg : w.grownBy w' row) (hne : some a.block ≠ row) : w'.cell? a = some v := (World.cell?_of_block (hg.block a.block (World.block_lt_of_cell? w a h) hne)).trans h
theorem info_sight : (Tryd.prog.info? 97).map (fun i => (i.zero, i.size, i.bytes)) = some (some (.agg #[.int .i64 0, .int .i64 0, .int .i64 0, .int .i64 0, .int .i64 0, .int .i64 0, .int .i64 0]), 7, 56) := by kernel_rfl
def flatSg (S : List Sg) : List Value := S.flatMap sgL
theorem flatSg_app (A B : List Sg) : flatSg (A ++ B) = flatSg A ++ flatSg B := by unfold flatSg; rw [List.flatMap_append]
theorem flatSg_cell {S : List Sg} {v : Value} (h : v ∈ flatSg S) : v.oneCell' = true := by
  unfold flatSg at h
  rw [List.mem_flatMap] at h
  obtain ⟨p, _, hp⟩ := h
  simp [sgL] at hp
  rcases hp with rfl | rfl | rfl | rfl | rfl | rfl | rfl <;> rfl
theorem flatSg_at : ∀ (S : List Sg) (k : Nat) (b : Sg), S[k]? = some b → ∀ j u, (sgL b)[j]? = some u → (flatSg S)[k * 7 + j]? = some u := by
  intro S
  induction S with
  | nil => intro k b h; simp at h
  | cons x S ih =>
    intro k b h j u hu
    have e : flatSg (x :: S) = sgL x ++ flatSg S := by unfold flatSg; simp
    have hj : j < 7 := (List.getElem?_eq_some_iff.1 hu).1
    rw [e]
    cases k with
    | zero =>
      simp at h
      subst h
      rw [List.getElem?_append_left (by show _ < 7; omega)]
      simpa using hu
    | succ k =>
      rw [List.getElem?_append_right (by show 7 ≤ _; omega)]
      rw [show (k + 1) * 7 + j - (sgL x).length = k * 7 + j by show _ - 7 = _; omega]
      exact ih k b (by simpa using h) j u hu
/-- an own row of sights, as it is read -/
theorem sights_own {w : World} {B : Nat} {a : Option Addr} {c : Nat} {A : List Sg} (h : w.ownsRow B 97 7 (.slice a A.length c) A.length (flatSg A)) : Sights w a A A.length := by
  rcases h.2 with ⟨h1, h0⟩ | ⟨g, cap, cur, hv, hb, hg, hnc, hcm, hcs, htake⟩
  · exact .inl h0
  · injection hv with e1 e2 e3
    refine .inr ⟨g, 0, e1, (Array.getElem?_eq_some_iff.1 hg).1, fun k hk => ?_⟩
    have hk' : A[k]? = some (sgA A k) := by unfold sgA; rw [List.getD_eq_getElem?_getD, List.getElem?_eq_getElem hk]; rfl
    have cl : ∀ j u, (sgL (sgA A k))[j]? = some u → w.cell? ⟨g, 0 + k * 7 + j, none⟩ = some u := by
      intro j u hu
      have hj : j < 7 := (List.getElem?_eq_some_iff.1 hu).1
      have e := flatSg_at A k _ hk' j u hu
      rw [cell_of_row w g _ cur _ _ hg]
      rw [← htake, List.getElem?_take, if_pos (by omega)] at e
      rw [Nat.zero_add]
      simpa using e
    exact ⟨cl 0 _ rfl, cl 1 _ rfl, cl 2 _ rfl, cl 3 _ rfl, cl 4 _ rfl, cl 5 _ rfl, cl 6 _ rfl⟩
theorem own_cap {w : World} {B : Nat} {a : Option Addr} {c n m : Nat} {t : TypeId} {xs : List Value} (h : w.ownsRow B t m (.slice a n c) n xs) (hm : 0 < m) : n ≤ c := by
  rcases h.2 with ⟨h1, h0⟩ | ⟨g, cap, cur, hv, hb, hg, hnc, hcm, hcs, htake⟩
  · injection h1 with _ e2 e3
    omega
  · injection hv with e1 e2 e3
    omega
end Go.Proofs.YtjdehbpgdplolaaDoor

namespace Go.Proofs.YtjdehbpgdplolaaDoor
open Go.RowKit Go.Sort
set_option linter.unusedVariables false

theorem named_no1 {L : List St} {S : List D3} {ids : List Int} (h : skyB L = false) : namedB L S ids = false := by unfold namedB; rw [h]; rfl
theorem named_no2 {L : List St} {S : List D3} {ids : List Int} (h : spotsB S = false) : namedB L S ids = false := by unfold namedB; rw [h, Bool.and_false]; rfl
theorem named_no3 {L : List St} {S : List D3} {ids : List Int} (h : ids.length ≠ S.length) : namedB L S ids = false := by unfold namedB; rw [decide_eq_false h, Bool.and_false]; rfl
theorem named_yes {L : List St} {S : List D3} {ids : List Int} (h1 : skyB L = true) (h2 : spotsB S = true) (h3 : ids.length = S.length) : namedB L S ids = allFit (sightsTo L S ids ids.length) (sightsTo L S ids ids.length).length := by unfold namedB; rw [h1, h2, decide_eq_true h3]; rfl
theorem allFit_yes {A : List Sg} {n : Nat} (h : ∀ i, i < n → (!zeroD (sgA A i).2.2 && fitsB A (sgA A i) i) = true) : allFit A n = true := by
  unfold allFit
  rw [List.all_eq_true]
  exact fun i hi => h i (List.mem_range.1 hi)
theorem allFit_no {A : List Sg} {n i : Nat} (hi : i < n) (h : (!zeroD (sgA A i).2.2 && fitsB A (sgA A i) i) = false) : allFit A n = false := by
  unfold allFit
  rw [List.all_eq_false]
  exact ⟨i, List.mem_range.2 hi, by rw [h]; simp⟩
theorem own_capMax {w : World} {B : Nat} {a : Option Addr} {c n m : Nat} {t : TypeId} {xs : List Value} (h : w.ownsRow B t m (.slice a n c) n xs) : c ≤ maxLen := by
  rcases h.2 with ⟨h1, h0⟩ | ⟨g, cap, cur, hv, hb, hg, hnc, hcm, hcs, htake⟩
  · injection h1 with _ e2 e3
    omega
  · injection hv with e1 e2 e3
    omega
end Go.Proofs.YtjdehbpgdplolaaDoor

namespace Go.Proofs.YtjdehbpgdplolaaDoor
open Go.RowKit Go.Sort
set_option linter.unusedVariables false

def intL (xs : List Int) : List Value := xs.map (fun z => .int .i64 z)
theorem intL_cell {S : List Int} {v : Value} (h : v ∈ intL S) : v.oneCell' = true := by
  unfold intL at h
  rw [List.mem_map] at h
  obtain ⟨p, _, rfl⟩ := h
  rfl
theorem ownI_none (w : World) (B : Nat) (h : B ≤ w.heap.size) : (w.alloc (.cells #[] 2)).ownsRow B 2 1 (.slice (some ⟨w.heap.size, 0, none⟩) 0 0) 0 (intL []) :=
  ⟨rfl, .inr ⟨_, 0, #[], rfl, h, Array.getElem?_push_size, Nat.le_refl _, Nat.zero_le _, rfl, rfl⟩⟩
theorem oLower {w : World} {B B' n m : Nat} {t : TypeId} {v : Value} {xs : List Value} (h : w.ownsRow B t m v n xs) (hb : B' ≤ B) : w.ownsRow B' t m v n xs := by
  obtain ⟨h1, h2⟩ := h
  refine ⟨h1, ?_⟩
  rcases h2 with h2 | ⟨g, cap, cur, e, hg, r⟩
  · exact .inl h2
  · exact .inr ⟨g, cap, cur, e, by omega, r⟩
/-- how many of the first k stars are brought to v -/
def hitsTo (L : List St) (a b c d : Int) (v : D3) : Nat → Nat
  | 0 => 0
  | k + 1 => hitsTo L a b c d v k + if sameD v (apD a b c d (stA L k).2) = true then 1 else 0
/-- how many stars are brought to the first i spots -/
def hitsOf (L : List St) (a b c d : Int) (S : List D3) (n : Nat) : Nat → Nat
  | 0 => 0
  | i + 1 => hitsOf L a b c d S n i + hitsTo L a b c d (vA S i) n
theorem hitsTo_le (L : List St) (a b c d : Int) (v : D3) : ∀ k, hitsTo L a b c d v k ≤ k
  | 0 => Nat.le_refl _
  | k + 1 => by unfold hitsTo; have := hitsTo_le L a b c d v k; split <;> omega
theorem hitsOf_le (L : List St) (a b c d : Int) (S : List D3) (n : Nat) : ∀ i, hitsOf L a b c d S n i ≤ i * n
  | 0 => Nat.zero_le _
  | i + 1 => by unfold hitsOf; have := hitsOf_le L a b c d S n i; have := hitsTo_le L a b c d (vA S i) n; rw [Nat.succ_mul]; omega
def idsL (L : List St) (a b c d : Int) (S : List D3) : List Int := S.map (fun v => idTo L a b c d v L.length)
theorem ids_snoc (L : List St) (a b c d : Int) (S : List D3) (i : Nat) (hi : i < S.length) : idsL L a b c d (S.take (i + 1)) = idsL L a b c d (S.take i) ++ [idTo L a b c d (vA S i) L.length] := by
  have e : S.take (i + 1) = S.take i ++ [vA S i] := by
    rw [List.take_succ_eq_append_getElem hi]
    congr 2
    unfold vA
    rw [List.getD_eq_getElem?_getD, List.getElem?_eq_getElem hi]
    rfl
  unfold idsL
  rw [e, List.map_append]
  rfl
/-- the specification's l02Same, of directions of parts to a million -/
theorem l02Same_within (p q : D3) (w : World) (hp : withinB 1000000 p.1 p.2.1 p.2.2 = true) (hq : withinB 1000000 q.1 q.2.1 q.2.2 = true) :
    Calls Tryd.prog 36 #[.agg #[.int .i64 p.1, .int .i64 p.2.1, .int .i64 p.2.2], .agg #[.int .i64 q.1, .int .i64 q.2.1, .int .i64 q.2.2]] w fun e w' => e = .returned (.bool (sameD q p)) ∧ Below w.heap.size w w' := by
  refine (l02Same_any _ _ _ _ _ _ w).mono fun e w' h => ?_
  have h2 := same_within hp hq
  rw [sameD_comm]
  unfold sameD
  rw [← h2]
  exact h
theorem wide_million {x y z : Int} (h : wideB x y z = true) : withinB 1000000 x y z = true := by
  have h2 := (rightB_iff.1 (wide_iff h).1).1
  rw [withinB_iff]
  exact h2
end Go.Proofs.YtjdehbpgdplolaaDoor

namespace Go.Proofs.YtjdehbpgdplolaaDoor
open Go.RowKit Go.Sort
set_option linter.unusedVariables false

theorem ordI_sgn (x : Int) : sgn x = ordI x 0 := rfl
theorem det_right {p q r : D3} (hp : rightB p.1 p.2.1 p.2.2 = true) (hq : rightB q.1 q.2.1 q.2.2 = true) (hr : rightB r.1 r.2.1 r.2.2 = true) :
    detD p q r = dotW (crW p.2.1 p.2.2 q.2.1 q.2.2) (crW p.2.2 p.1 q.2.2 q.1) (crW p.1 p.2.1 q.1 q.2.1) r.1 r.2.1 r.2.2 := by
  unfold detD detI
  rw [hp, hq, hr]
  rfl
/-- the three calls that tell a side -/
theorem det_calls (p q r : D3) (hp : rightB p.1 p.2.1 p.2.2 = true) (hq : rightB q.1 q.2.1 q.2.2 = true) (hr : rightB r.1 r.2.1 r.2.2 = true) : ∃ (x1 x2 x3 d : Int),
    Hid (∀ W : World, Calls Tryd.prog 46 #[.agg #[.int .i64 p.1, .int .i64 p.2.1, .int .i64 p.2.2], .agg #[.int .i64 q.1, .int .i64 q.2.1, .int .i64 q.2.2]] W fun e w' => e = .returned (.agg #[.int .i64 x1, .int .i64 x2, .int .i64 x3]) ∧ Below W.heap.size W w')
    ∧ Hid (∀ W : World, Calls Tryd.prog 47 #[.agg #[.int .i64 x1, .int .i64 x2, .int .i64 x3], .agg #[.int .i64 r.1, .int .i64 r.2.1, .int .i64 r.2.2]] W fun e w' => e = .returned (.int .i64 d) ∧ Below W.heap.size W w')
    ∧ Hid (∀ W : World, Calls Tryd.prog 60 #[.int .i64 d] W fun e w' => e = .returned (.int .i64 (ordI (detD p q r) 0)) ∧ Below W.heap.size W w') := by
  refine ⟨_, _, _, _, hide (fun W => l02Cross_any _ _ _ _ _ _ W), hide (fun W => l02Dot_any _ _ _ _ _ _ W), hide (fun W => (l02Sign_any _ W).mono fun e w' h => ?_)⟩
  obtain ⟨he, hw⟩ := h
  refine ⟨?_, by rw [hw]; exact Below.refl _ _⟩
  rw [he, det_right hp hq hr]
  rfl
theorem cos_call (p q r s : D3) (hp : wideD p = true) (hq : wideD q = true) (hr : smallB r.1 r.2.1 r.2.2 = true) (hs : smallB s.1 s.2.1 s.2.2 = true) (W : World) :
    Calls Tryd.prog 59 #[.agg #[.int .i64 p.1, .int .i64 p.2.1, .int .i64 p.2.2], .agg #[.int .i64 q.1, .int .i64 q.2.1, .int .i64 q.2.2], .agg #[.int .i64 r.1, .int .i64 r.2.1, .int .i64 r.2.2], .agg #[.int .i64 s.1, .int .i64 s.2.1, .int .i64 s.2.2]] W fun e w' => e = .returned (.int .i64 (cosI p.1 p.2.1 p.2.2 q.1 q.2.1 q.2.2 r.1 r.2.1 r.2.2 s.1 s.2.1 s.2.2)) ∧ Below W.heap.size W w' := by
  rw [cos_eq2 hp hq hr hs]
  exact l02Cos_any _ _ _ _ _ _ _ _ _ _ _ _ W
def stepI (L : List St) (S : List D3) (ids : List Int) (s : Sg) (i : Nat) : Bool := decide (ids.getD i 0 = 0) || (decide (s.2.1 ≠ ids.getD i 0) && farB s (sgOf L S ids i) && (List.range i).all (fun j => decide (ids.getD j 0 = 0) || sideB s (sgOf L S ids j) (sgOf L S ids i)))
theorem fitsI_yes {L : List St} {S : List D3} {ids : List Int} {s : Sg} {n : Nat} (h : ∀ i, i < n → stepI L S ids s i = true) : fitsI L S ids s n = true := by
  unfold fitsI
  rw [List.all_eq_true]
  exact fun i hi => h i (List.mem_range.1 hi)
theorem fitsI_no {L : List St} {S : List D3} {ids : List Int} {s : Sg} {n i : Nat} (hi : i < n) (h : stepI L S ids s i = false) : fitsI L S ids s n = false := by
  unfold fitsI
  rw [List.all_eq_false]
  exact ⟨i, List.mem_range.2 hi, by unfold stepI at h; rw [h]; simp⟩
theorem stepI_zero {L : List St} {S : List D3} {ids : List Int} {s : Sg} {i : Nat} (h : ids.getD i 0 = 0) : stepI L S ids s i = true := by unfold stepI; rw [decide_eq_true h, Bool.true_or]
theorem stepI_same {L : List St} {S : List D3} {ids : List Int} {s : Sg} {i : Nat} (h : ids.getD i 0 ≠ 0) (h1 : s.2.1 = ids.getD i 0) : stepI L S ids s i = false := by
  unfold stepI
  rw [decide_eq_false h, Bool.false_or, show decide (s.2.1 ≠ ids.getD i 0) = false from decide_eq_false (fun g => g h1)]
  rfl
theorem stepI_far {L : List St} {S : List D3} {ids : List Int} {s : Sg} {i : Nat} (h : ids.getD i 0 ≠ 0) (h1 : farB s (sgOf L S ids i) = false) : stepI L S ids s i = false := by
  unfold stepI
  rw [decide_eq_false h, Bool.false_or, h1, Bool.and_false]
  rfl
theorem stepI_side {L : List St} {S : List D3} {ids : List Int} {s : Sg} {i j : Nat} (h : ids.getD i 0 ≠ 0) (hj : j < i) (h0 : ids.getD j 0 ≠ 0) (h1 : sideB s (sgOf L S ids j) (sgOf L S ids i) = false) : stepI L S ids s i = false := by
  unfold stepI
  have : ((List.range i).all fun j => decide (ids.getD j 0 = 0) || sideB s (sgOf L S ids j) (sgOf L S ids i)) = false := by
    rw [List.all_eq_false]
    exact ⟨j, List.mem_range.2 hj, by rw [decide_eq_false h0, h1]; simp⟩
  rw [decide_eq_false h, Bool.false_or, this, Bool.and_false]
theorem stepI_yes {L : List St} {S : List D3} {ids : List Int} {s : Sg} {i : Nat} (h1 : s.2.1 ≠ ids.getD i 0) (h2 : farB s (sgOf L S ids i) = true) (h3 : ∀ j, j < i → (decide (ids.getD j 0 = 0) || sideB s (sgOf L S ids j) (sgOf L S ids i)) = true) : stepI L S ids s i = true := by
  unfold stepI
  rw [decide_eq_true h1, h2, show ((List.range i).all fun j => decide (ids.getD j 0 = 0) || sideB s (sgOf L S ids j) (sgOf L S ids i)) = true from List.all_eq_true.2 (fun j hj => h3 j (List.mem_range.1 hj))]
  simp
def sidesTo (L : List St) (S : List D3) (ids : List Int) (s : Sg) (i j : Nat) : Prop := ∀ l, l < j → (decide (ids.getD l 0 = 0) || sideB s (sgOf L S ids l) (sgOf L S ids i)) = true
theorem sides_step {L : List St} {S : List D3} {ids : List Int} {s : Sg} {i j : Nat} (h : sidesTo L S ids s i j) (h1 : (decide (ids.getD j 0 = 0) || sideB s (sgOf L S ids j) (sgOf L S ids i)) = true) : sidesTo L S ids s i (j + 1) := fun l hl => by
  by_cases e : l = j
  · rw [e]; exact h1
  · exact h l (by omega)
theorem sides_none (L : List St) (S : List D3) (ids : List Int) (s : Sg) (i : Nat) : sidesTo L S ids s i 0 := fun j hj => absurd hj (Nat.not_lt_zero _)
set_option maxHeartbeats 4000000 in
set_option maxRecDepth 100000 in
theorem l06Fits_any (L : List St) (S : List D3) (ids : List Int) (k : Nat) (id : Int) (ar br ir : Option Addr) (cr dr er : Nat) (w : World) (hk6 : k ≤ 6) (hn : L.length ≤ 12) (hS : Stars w ar L L.length) (hD : Dirs w br S (k + 1)) (hI : Nums w ir ids k)
    (hwd : ∀ i, i ≤ k → wideD (vA S i) = true) (hid : smallB (atV L L.length id).1 (atV L L.length id).2.1 (atV L L.length id).2.2 = true) (hids : ∀ i, i < k → ids.getD i 0 ≠ 0 → smallB (atV L L.length (ids.getD i 0)).1 (atV L L.length (ids.getD i 0)).2.1 (atV L L.length (ids.getD i 0)).2.2 = true) :
    Calls Tryd.prog 48 #[.slice ar L.length cr, .slice br (k + 1) dr, .slice ir k er, .int .i64 id] w fun e w' => e = .returned (.bool (fitsI L S ids (vA S k, (id, atV L L.length id)) k)) ∧ Below w.heap.size w w' := by
  have cA := hide (fun (W : World) (q : Int) hW => l04At_any L L.length q ar cr W (by omega) hW)
  have HS := hide hS
  have HD := hide hD
  have HWD := hide hwd
  have HDS := hide hids
  have HSO : Hid (∀ i, sgOf L S ids i = (vA S i, (ids.getD i 0, atV L L.length (ids.getD i 0)))) := hide (fun i => rfl)
  clear hS hD hwd hids
  obtain ⟨⟨p1, p2, p3⟩, hp⟩ : ∃ p, vA S k = p := ⟨_, rfl⟩
  obtain ⟨⟨q1, q2, q3⟩, hq⟩ : ∃ p, atV L L.length id = p := ⟨_, rfl⟩
  obtain ⟨sg, hsg⟩ : ∃ sg : Sg, sg = ((p1, p2, p3), (id, q1, q2, q3)) := ⟨_, rfl⟩
  have cV := hide (fun (W : World) hW => unhide cA W id hW)
  rw [hq] at hid cV
  have HWK : Hid (wideD (p1, p2, p3) = true) := hide (by rw [← hp]; exact unhide HWD k (Nat.le_refl _))
  have HIDS := hide hid
  rw [hp, hq, ← hsg]
  have HSG := hide hsg
  have HP := hide hp
  clear hp hq hsg hid
  generalize L.length = n at *
  go_enter Tryd.func48, Tryd.ntmps48
  go_wp2_with fail
  refine (unhide cV _ (unhide HS)).mono ?_
  rintro e W1 ⟨rfl, hx⟩
  unfold vecV
  simp only
  have Z := below1 W1 (.cells #[.int .i64 q1, .int .i64 q2, .int .i64 q3] 44)
  have HB1 := hide (below_call hx Z)
  have HV1 := hide (vecAt_new W1 q1 q2 q3 44)
  clear hx Z cV
  go_wp2_with fail
  generalize W1.alloc (.cells #[.int .i64 q1, .int .i64 q2, .int .i64 q3] 44) = W2 at HB1 HV1 ⊢
  generalize W1.heap.size = vb at *
  rcases hI with h0 | ⟨ib, io, rfl, hib, hic⟩
  · subst h0
    refine wp_loop_rounds 1 ?_
    rw [rounds_succ]
    go_wp2_with fail
    go_ret
    exact ⟨rfl, unhide HB1⟩
  have HIC := hide hic
  clear hic
  rcases unhide HD with h | ⟨bb, bo, rfl, hbb, hbc⟩
  · omega
  have HBC := hide hbc
  clear hbc
  go_loopw [11] (fun kk wr => ∃ i : Nat, i ≤ k ∧ kk = .int .i64 i ∧ Hid (∀ j, j < i → stepI L S ids sg j = true) ∧ Hid (VecAt wr vb q1 q2 q3) ∧ Hid (Below w.heap.size w wr)) (fun kk _ => k - (intOf kk).toNat)
  case atStart => exact ⟨0, by omega, rfl, hide (fun j hj => absurd hj (Nat.not_lt_zero _)), HV1, HB1⟩
  case round =>
    clear HV1 HB1
    obtain ⟨i, hi, rfl, HF, HV, HB⟩ := hrel
    by_cases hik : i < k
    · have hik2 : (i : Int) < (k : Int) := by omega
      have ci : wr.cell? ⟨ib, io + i, none⟩ = some (.int .i64 (ids.getD i 0)) := by rw [(unhide HB).cell (p := ⟨ib, io + i, none⟩) hib]; exact unhide HIC i hik
      have HSI := hide (unhide HSO i)
      obtain ⟨x, hxi⟩ : ∃ x, ids.getD i 0 = x := ⟨_, rfl⟩
      rw [hxi] at ci HSI
      have HX := hide hxi
      clear hxi
      by_cases hx0 : x = 0
      · subst hx0
        have HOK := hide (stepI_zero (L := L) (S := S) (s := sg) (unhide HX))
        go_wp2_with fail
        go_roundw
        case rel => exact ⟨i + 1, by omega, by go_num, hide (fun l hl => by
          by_cases e : l = i
          · rw [e]; exact unhide HOK
          · exact unhide HF l (by omega)), HV, HB⟩
        case measure => simp [intOf] <;> omega
      have hx0' : (x == 0) = false := by simp [hx0]
      have HXN : Hid (ids.getD i 0 ≠ 0) := hide (by rw [unhide HX]; exact hx0)
      by_cases hxd : x = id
      · subst hxd
        have HNO := hide (fitsI_no hik (stepI_same (L := L) (S := S) (s := sg) (unhide HXN) (by rw [unhide HX, unhide HSG])))
        go_wp2_with fail
        go_ret
        exact ⟨by rw [unhide HNO]; rfl, unhide HB⟩
      have hxd' : (x == id) = false := by simp [hxd]
      have HDX : Hid (sg.2.1 ≠ ids.getD i 0) := hide (by rw [unhide HX, unhide HSG]; exact fun e => hxd e.symm)
      have cW := hide (fun (W : World) hW => unhide cA W x hW)
      have hsmx := unhide HDS i hik (unhide HXN)
      rw [unhide HX] at hsmx
      obtain ⟨⟨w1, w2, w3⟩, hwv⟩ : ∃ p, atV L n x = p := ⟨_, rfl⟩
      rw [hwv] at cW hsmx HSI
      clear hwv
      obtain ⟨⟨s1, s2, s3⟩, hsv⟩ : ∃ p, vA S i = p := ⟨_, rfl⟩
      have HSVI := hide hsv
      rw [hsv] at HSI
      have hwi := unhide HWD i (by omega)
      rw [hsv] at hwi
      clear hsv
      go_wp2_with fail
      refine (unhide cW _ ((unhide HS).kept (unhide HB))).mono ?_
      rintro e W3 ⟨rfl, hx⟩
      unfold vecV
      simp only
      have Z := below1 W3 (.cells #[.int .i64 w1, .int .i64 w2, .int .i64 w3] 44)
      have HB3 := hide (below_call (below_call (unhide HB) hx) Z)
      have HV3 := hide (((unhide HV).kept (vltD (unhide HV)) hx).kept (Nat.lt_of_lt_of_le (vltD (unhide HV)) hx.size) Z)
      have HW3 := hide (vecAt_new W3 w1 w2 w3 44)
      clear hx Z cW ci HB HV
      go_wp2_with fail
      generalize W3.alloc (.cells #[.int .i64 w1, .int .i64 w2, .int .i64 w3] 44) = W4 at HB3 HV3 HW3 ⊢
      generalize W3.heap.size = wb at *
      have hsp := (unhide HBC i (by omega)).kept hbb (unhide HB3)
      have hpp := (unhide HBC k (by omega)).kept hbb (unhide HB3)
      rw [unhide HSVI] at hsp
      rw [unhide HP] at hpp
      have cC := hide (fun W => cos_call (s1, s2, s3) (p1, p2, p3) (w1, w2, w3) (q1, q2, q3) hwi (unhide HWK) hsmx (unhide HIDS) W)
      have HFA : Hid (farB sg (sgOf L S ids i) = decide (cosI s1 s2 s3 p1 p2 p3 w1 w2 w3 q1 q2 q3 = 0)) := hide (by rw [unhide HSI, unhide HSG]; rfl)
      generalize cosI s1 s2 s3 p1 p2 p3 w1 w2 w3 q1 q2 q3 = cv at *
      simp only at cC
      obtain ⟨c0, c1, c2⟩ := hsp
      obtain ⟨d0, d1, d2⟩ := hpp
      obtain ⟨e0, e1, e2⟩ := unhide HV3
      obtain ⟨f0, f1, f2⟩ := unhide HW3
      have rc0 := cell_regrown c0
      have rc1 := cell_regrown c1
      have rc2 := cell_regrown c2
      have rd0 := cell_regrown d0
      have rd1 := cell_regrown d1
      have rd2 := cell_regrown d2
      have re0 := cell_regrown e0
      have re1 := cell_regrown e1
      have re2 := cell_regrown e2
      have rf0 := cell_regrown f0
      have rf1 := cell_regrown f1
      have rf2 := cell_regrown f2
      clear c0 c1 c2 d0 d1 d2 e0 e1 e2 f0 f1 f2
      have hik3 : (i : Int) < (k : Int) + 1 := by omega
      have hkk3 : (k : Int) < (k : Int) + 1 := by omega
      refine wp_region_quiet_below (by kernel_rfl) (by kernel_rfl) ?_
      repeat (go_big_quiet_step (first | (with_reducible exact Calls.regrown_of (unhide cC _))))
      refine wpQuiet_nil ?_
      intro _ hw'
      obtain ⟨⟨dq, osq⟩, hw''⟩ := hw'
      subst hw''
      have hx := below_regrown W4 dq osq
      have HB5 := hide (below_call (unhide HB3) hx)
      have HV5 := hide ((unhide HV3).kept (vltD (unhide HV3)) hx)
      have HW5 := hide ((unhide HW3).kept (vltD (unhide HW3)) hx)
      generalize grow (redrawn W4 dq) osq = W5 at hx HB5 HV5 HW5 ⊢
      clear hx rc0 rc1 rc2 rd0 rd1 rd2 re0 re1 re2 rf0 rf1 rf2 cC HB3 HV3 HW3
      by_cases hcv : cv ≠ 0
      · have hcv' : (cv == 0) = false := by simp [hcv]
        have HNO := hide (fitsI_no hik (stepI_far (L := L) (S := S) (s := sg) (unhide HXN) (by rw [unhide HFA]; exact decide_eq_false hcv)))
        go_wp2_with fail
        go_ret
        exact ⟨by rw [unhide HNO]; rfl, unhide HB5⟩
      have hcv0 : cv = 0 := Decidable.not_not.1 hcv
      subst hcv0
      clear hcv
      have HFT : Hid (farB sg (sgOf L S ids i) = true) := hide (by rw [unhide HFA]; rfl)
      clear HFA
      go_wp2_with fail
      go_loopw [13] (fun kk wr => ∃ j : Nat, j ≤ i ∧ kk = .int .i64 j ∧ Hid (sidesTo L S ids sg i j) ∧ Hid (VecAt wr vb q1 q2 q3) ∧ Hid (VecAt wr wb w1 w2 w3) ∧ Hid (Below w.heap.size w wr)) (fun kk _ => i - (intOf kk).toNat)
      case atStart => exact ⟨0, by omega, rfl, hide (sides_none _ _ _ _ _), HV5, HW5, HB5⟩
      case round =>
        clear HV5 HW5 HB5
        obtain ⟨j, hj, rfl, HL, HV, HW, HB⟩ := hrel
        by_cases hji : j < i
        · have hji2 : (j : Int) < (i : Int) := by omega
          have hjk2 : (j : Int) < (k : Int) := by omega
          have ci : wr.cell? ⟨ib, io + j, none⟩ = some (.int .i64 (ids.getD j 0)) := by rw [(unhide HB).cell (p := ⟨ib, io + j, none⟩) hib]; exact unhide HIC j (by omega)
          have HSJ := hide (unhide HSO j)
          obtain ⟨y, hyi⟩ : ∃ x, ids.getD j 0 = x := ⟨_, rfl⟩
          rw [hyi] at ci HSJ
          have HY := hide hyi
          clear hyi
          by_cases hy0 : y = 0
          · subst hy0
            have HOK : Hid ((decide (ids.getD j 0 = 0) || sideB sg (sgOf L S ids j) (sgOf L S ids i)) = true) := hide (by rw [unhide HY]; rfl)
            go_wp2_with fail
            go_roundw
            case rel => exact ⟨j + 1, by omega, by go_num, hide (sides_step (unhide HL) (unhide HOK)), HV, HW, HB⟩
            case measure => simp [intOf] <;> omega
          have hy0' : (y == 0) = false := by simp [hy0]
          have HYN : Hid (ids.getD j 0 ≠ 0) := hide (by rw [unhide HY]; exact hy0)
          have cU := hide (fun (W : World) hW => unhide cA W y hW)
          have hsmy := unhide HDS j (by omega) (unhide HYN)
          rw [unhide HY] at hsmy
          obtain ⟨⟨u1, u2, u3⟩, huv⟩ : ∃ p, atV L n y = p := ⟨_, rfl⟩
          rw [huv] at cU hsmy HSJ
          clear huv
          obtain ⟨⟨t1, t2, t3⟩, htv⟩ : ∃ p, vA S j = p := ⟨_, rfl⟩
          have HTVJ := hide htv
          rw [htv] at HSJ
          have hwj := unhide HWD j (by omega)
          rw [htv] at hwj
          clear htv
          go_wp2_with fail
          refine (unhide cU _ ((unhide HS).kept (unhide HB))).mono ?_
          rintro e W6 ⟨rfl, hx⟩
          unfold vecV
          simp only
          have Z := below1 W6 (.cells #[.int .i64 u1, .int .i64 u2, .int .i64 u3] 44)
          have HB6 := hide (below_call (below_call (unhide HB) hx) Z)
          have HV6 := hide (((unhide HV).kept (vltD (unhide HV)) hx).kept (Nat.lt_of_lt_of_le (vltD (unhide HV)) hx.size) Z)
          have HW6 := hide (((unhide HW).kept (vltD (unhide HW)) hx).kept (Nat.lt_of_lt_of_le (vltD (unhide HW)) hx.size) Z)
          have HU6 := hide (vecAt_new W6 u1 u2 u3 44)
          clear hx Z cU ci HB HV HW
          go_wp2_with fail
          generalize W6.alloc (.cells #[.int .i64 u1, .int .i64 u2, .int .i64 u3] 44) = W7 at HB6 HV6 HW6 HU6 ⊢
          generalize W6.heap.size = ub at *
          have hsp := (unhide HBC i (by omega)).kept hbb (unhide HB6)
          have htp := (unhide HBC j (by omega)).kept hbb (unhide HB6)
          have hpp := (unhide HBC k (by omega)).kept hbb (unhide HB6)
          rw [unhide HSVI] at hsp
          rw [unhide HTVJ] at htp
          rw [unhide HP] at hpp
          obtain ⟨x1, x2, x3, dd, cX, cY, cZ⟩ := det_calls (t1, t2, t3) (s1, s2, s3) (p1, p2, p3) (wide_iff hwj).1 (wide_iff hwi).1 (wide_iff (unhide HWK)).1
          obtain ⟨y1, y2, y3, d2, cX2, cY2, cZ2⟩ := det_calls (u1, u2, u3) (w1, w2, w3) (q1, q2, q3) (small_iff hsmy).1 (small_iff hsmx).1 (small_iff (unhide HIDS)).1
          have HSB : Hid (sideB sg (sgOf L S ids j) (sgOf L S ids i) = decide (ordI (detD (t1, t2, t3) (s1, s2, s3) (p1, p2, p3)) 0 = ordI (detD (u1, u2, u3) (w1, w2, w3) (q1, q2, q3)) 0)) := hide (by rw [unhide HSI, unhide HSJ, unhide HSG]; rfl)
          generalize ordI (detD (t1, t2, t3) (s1, s2, s3) (p1, p2, p3)) 0 = o1 at *
          generalize ordI (detD (u1, u2, u3) (w1, w2, w3) (q1, q2, q3)) 0 = o2 at *
          simp only at cX cY cZ cX2 cY2 cZ2
          obtain ⟨c0, c1, c2⟩ := hsp
          obtain ⟨d0, d1, d2'⟩ := hpp
          obtain ⟨e0, e1, e2⟩ := unhide HV6
          obtain ⟨f0, f1, f2⟩ := unhide HW6
          obtain ⟨g0, g1, g2⟩ := unhide HU6
          obtain ⟨h0, h1, h2⟩ := htp
          have rc0 := cell_regrown c0
          have rc1 := cell_regrown c1
          have rc2 := cell_regrown c2
          have rd0 := cell_regrown d0
          have rd1 := cell_regrown d1
          have rd2 := cell_regrown d2'
          have re0 := cell_regrown e0
          have re1 := cell_regrown e1
          have re2 := cell_regrown e2
          have rf0 := cell_regrown f0
          have rf1 := cell_regrown f1
          have rf2 := cell_regrown f2
          have rg0 := cell_regrown g0
          have rg1 := cell_regrown g1
          have rg2 := cell_regrown g2
          have rh0 := cell_regrown h0
          have rh1 := cell_regrown h1
          have rh2 := cell_regrown h2
          clear c0 c1 c2 d0 d1 d2' e0 e1 e2 f0 f1 f2 g0 g1 g2 h0 h1 h2
          have hjk3 : (j : Int) < (k : Int) + 1 := by omega
          refine wp_region_quiet_below (by kernel_rfl) (by kernel_rfl) ?_
          repeat (go_big_quiet_step (first | (with_reducible exact Calls.regrown_of (unhide cX _)) | (with_reducible exact Calls.regrown_of (unhide cY _)) | (with_reducible exact Calls.regrown_of (unhide cZ _)) | (with_reducible exact Calls.regrown_of (unhide cX2 _)) | (with_reducible exact Calls.regrown_of (unhide cY2 _)) | (with_reducible exact Calls.regrown_of (unhide cZ2 _))))
          refine wpQuiet_nil ?_
          intro _ hw'
          obtain ⟨⟨dq, osq⟩, hw''⟩ := hw'
          subst hw''
          have hx := below_regrown W7 dq osq
          have HB8 := hide (below_call (unhide HB6) hx)
          have HV8 := hide ((unhide HV6).kept (vltD (unhide HV6)) hx)
          have HW8 := hide ((unhide HW6).kept (vltD (unhide HW6)) hx)
          generalize grow (redrawn W7 dq) osq = W8 at hx HB8 HV8 HW8 ⊢
          clear hx rc0 rc1 rc2 rd0 rd1 rd2 re0 re1 re2 rf0 rf1 rf2 rg0 rg1 rg2 rh0 rh1 rh2 cX cY cZ cX2 cY2 cZ2 HB6 HV6 HW6 HU6
          by_cases ho : o1 = o2
          · subst ho
            have HOK : Hid ((decide (ids.getD j 0 = 0) || sideB sg (sgOf L S ids j) (sgOf L S ids i)) = true) := hide (by rw [unhide HSB]; simp)
            go_wp2_with fail
            go_roundw
            case rel => first | exact ⟨j + 1, by omega, by go_num, hide (sides_step (unhide HL) (unhide HOK)), HV8, HW8, HB8⟩ | exact ⟨j + 1, by omega, by omega, hide (sides_step (unhide HL) (unhide HOK))⟩
            case measure => simp [intOf] <;> omega
          · have ho' : (o1 == o2) = false := by simp [ho]
            have HNO := hide (fitsI_no hik (stepI_side (L := L) (S := S) (s := sg) (unhide HXN) hji (unhide HYN) (by rw [unhide HSB]; exact decide_eq_false ho)))
            go_wp2_with fail
            go_ret
            exact ⟨by rw [unhide HNO]; rfl, unhide HB8⟩
        · have hji' : j = i := by omega
          subst hji'
          have HOK := hide (stepI_yes (unhide HDX) (unhide HFT) (unhide HL))
          go_wp2_with fail
          go_roundw
          case rel => exact ⟨j + 1, by omega, by go_num, hide (fun l hl => by
            by_cases e : l = j
            · rw [e]; exact unhide HOK
            · exact unhide HF l (by omega)), HV, HB⟩
          case measure => simp [intOf] <;> omega
    · have hik' : i = k := by omega
      subst hik'
      have HY := hide (fitsI_yes (unhide HF))
      go_wp2_with fail
      go_ret
      exact ⟨by rw [unhide HY]; rfl, unhide HB⟩
theorem namedI_yes {L : List St} {S : List D3} {ids : List Int} {n : Nat} (h : ∀ i, i < n → (decide (ids.getD i 0 = 0) || (!zeroD (atV L L.length (ids.getD i 0)) && fitsI L S ids (sgOf L S ids i) i)) = true) : namedI L S ids n = true := by
  unfold namedI
  rw [List.all_eq_true]
  exact fun i hi => h i (List.mem_range.1 hi)
theorem namedI_no {L : List St} {S : List D3} {ids : List Int} {n i : Nat} (hi : i < n) (h : (decide (ids.getD i 0 = 0) || (!zeroD (atV L L.length (ids.getD i 0)) && fitsI L S ids (sgOf L S ids i) i)) = false) : namedI L S ids n = false := by
  unfold namedI
  rw [List.all_eq_false]
  exact ⟨i, List.mem_range.2 hi, by rw [h]; simp⟩
def namedTo (L : List St) (S : List D3) (ids : List Int) (n : Nat) : Prop := ∀ i, i < n → (decide (ids.getD i 0 = 0) || (!zeroD (atV L L.length (ids.getD i 0)) && fitsI L S ids (sgOf L S ids i) i)) = true
theorem namedTo_step {L : List St} {S : List D3} {ids : List Int} {n : Nat} (h : namedTo L S ids n) (h1 : (decide (ids.getD n 0 = 0) || (!zeroD (atV L L.length (ids.getD n 0)) && fitsI L S ids (sgOf L S ids n) n)) = true) : namedTo L S ids (n + 1) := fun l hl => by
  by_cases e : l = n
  · rw [e]; exact h1
  · exact h l (by omega)
theorem namedTo_none (L : List St) (S : List D3) (ids : List Int) : namedTo L S ids 0 := fun j hj => absurd hj (Nat.not_lt_zero _)
theorem namedTo_small {L : List St} {S : List D3} {ids : List Int} {n : Nat} (hk : skyB L = true) (h : namedTo L S ids n) (i : Nat) (hi : i < n) (h0 : ids.getD i 0 ≠ 0) : smallB (atV L L.length (ids.getD i 0)).1 (atV L L.length (ids.getD i 0)).2.1 (atV L L.length (ids.getD i 0)).2.2 = true := by
  have h1 := h i hi
  rw [decide_eq_false h0, Bool.false_or, Bool.and_eq_true] at h1
  exact at_small hk (by simpa using h1.1)
theorem Dirs.sub {w : World} {a : Option Addr} {L : List D3} {n m : Nat} (h : Dirs w a L n) (hm : m ≤ n) : Dirs w a L m := h.less hm
theorem Nums.less {w : World} {a : Option Addr} {L : List Int} {n m : Nat} (h : Nums w a L n) (hm : m ≤ n) : Nums w a L m := by
  rcases h with h | ⟨b, o, ha, hb, hc⟩
  · exact .inl (by omega)
  · exact .inr ⟨b, o, ha, hb, fun i hi => hc i (by omega)⟩
end Go.Proofs.YtjdehbpgdplolaaDoor

namespace Go.Proofs.YtjdehbpgdplolaaDoor
open Go.RowKit Go.Sort
set_option linter.unusedVariables false

theorem named_is {L : List St} {S : List D3} {ids : List Int} (h1 : skyB L = true) (h2 : spotsB S = true) : (decide (ids.length = S.length) && namedI L S ids ids.length) = namedB L S ids := by
  unfold namedB
  rw [h1, h2, named_eq]
  rfl
theorem named_long {L : List St} {S : List D3} {ids : List Int} (h : 6 < ids.length) : namedB L S ids = false := by
  cases h2 : spotsB S
  · exact named_no2 h2
  · exact named_no3 (by have := (spots_ok h2).1; omega)
end Go.Proofs.YtjdehbpgdplolaaDoor

namespace Go.Proofs.YtjdehbpgdplolaaDoor
open Go.RowKit Go.Deep Go.ChangeShapes
set_option linter.unusedVariables false

theorem vA_range (n : Nat) (f : Nat → D3) {i : Nat} (h : i < n) : vA ((List.range n).map f) i = f i := by
  unfold vA
  rw [List.getD_eq_getElem?_getD, List.getElem?_map, List.getElem?_range h]
  rfl
theorem cellsDV : Tryd.prog.cellsOf 48 = 3 := by kernel_rfl
theorem cellsDI : Tryd.prog.cellsOf 2 = 1 := by kernel_rfl
theorem spot_noneD {w : World} {x : Addr} {v : Value} (h : w.cell? x = some v) : x.spot = none := by
  cases hs : x.spot with
  | none => rfl
  | some k =>
    exfalso
    unfold World.cell? at h
    rw [hs] at h
    revert h
    split <;> simp
set_option maxRecDepth 100000 in
theorem open_dirs {H : Type} {enc : TypeId × Value → H} {w : World} {fuel : Nat} {a : Option Addr} {len cap : Nat} {x : DataW H × List MemPlace}
    (h : DataW.trod enc Tryd.prog w 0 (fun _ => true) true fuel 23 [.slice a len cap] = some x) : ∃ L : List D3, L.length = len ∧ Dirs w a L len ∧ len ≤ maxLen := by
  rcases open_slice Tryd.underlying23 h with ⟨hcs, _⟩ | ⟨a', l, c, m, n, D, Pl, hcs, _, hl, hm, hmm, _, hel⟩
  · simp at hcs
    obtain ⟨rfl, rfl, rfl⟩ := hcs
    exact ⟨[], rfl, .inl rfl, Nat.zero_le _⟩
  · simp at hcs
    obtain ⟨rfl, rfl, rfl⟩ := hcs
    have hlm : len ≤ m := by rw [hmm]; simp; exact hl
    have each : ∀ i, i < len → ∃ s : D3, w.cell? (a'.add (i * 3)) = some (.int .i64 s.1) ∧ w.cell? (a'.add (i * 3 + 1)) = some (.int .i64 s.2.1) ∧ w.cell? (a'.add (i * 3 + 2)) = some (.int .i64 s.2.2) := by
      intro i hi
      obtain ⟨cs, h1, h2⟩ := hel i (by omega)
      rw [cellsDV] at h1
      obtain ⟨_, hlen, hcell⟩ := World.cells?_some h1
      match cs, hlen with
      | [v1, v2, v3], _ =>
        obtain ⟨z0, z1, z2, n2, _, _, k0, k1, k2⟩ := trod_struct3 Tryd.underlying48 h2
        have k0' : DataW.trod enc Tryd.prog w 0 (fun _ => true) true n2 2 (([v1, v2, v3].drop 0).take (Tryd.prog.cellsOf 2)) = some z0 := k0
        have k1' : DataW.trod enc Tryd.prog w 0 (fun _ => true) true n2 2 (([v1, v2, v3].drop 1).take (Tryd.prog.cellsOf 2)) = some z1 := k1
        have k2' : DataW.trod enc Tryd.prog w 0 (fun _ => true) true n2 2 (([v1, v2, v3].drop 2).take (Tryd.prog.cellsOf 2)) = some z2 := k2
        rw [cellsDI] at k0' k1' k2'
        obtain ⟨i1, e1, _, _⟩ := DataW.trod_int Tryd.underlying2 k0'
        obtain ⟨i2, e2, _, _⟩ := DataW.trod_int Tryd.underlying2 k1'
        obtain ⟨i3, e3, _, _⟩ := DataW.trod_int Tryd.underlying2 k2'
        simp at e1 e2 e3
        subst e1 e2 e3
        have c0 := hcell 0 (by omega)
        have c1 := hcell 1 (by omega)
        have c2 := hcell 2 (by omega)
        rw [add_add] at c0 c1 c2
        exact ⟨(i1, i2, i3), by simpa using c0, by simpa using c1, by simpa using c2⟩
    obtain ⟨f, hf⟩ := choose_lt each
    refine ⟨(List.range len).map f, by simp, ?_, by omega⟩
    rcases Nat.eq_zero_or_pos len with h0 | h0
    · exact .inl h0
    · have hs : (a'.add (0 * 3)).spot = none := spot_noneD (hf 0 h0).1
      have hb : (a'.add (0 * 3)).block < w.heap.size := World.block_lt_of_cell? w _ (hf 0 h0).1
      obtain ⟨bx, ox, sx⟩ := a'
      have hs' : sx = none := by simpa [Addr.add] using hs
      subst hs'
      have hA : ∀ j, (⟨bx, ox, none⟩ : Addr).add j = ⟨bx, ox + j, none⟩ := fun j => by unfold Addr.add; split <;> simp_all
      refine .inr ⟨bx, ox, rfl, by simpa [Addr.add] using hb, fun i hi => ?_⟩
      obtain ⟨c0, c1, c2⟩ := hf i hi
      rw [hA] at c0 c1 c2
      rw [vA_range len f hi]
      exact ⟨c0, by rw [Nat.add_assoc]; exact c1, by rw [Nat.add_assoc]; exact c2⟩
end Go.Proofs.YtjdehbpgdplolaaDoor

namespace Go.Proofs.YtjdehbpgdplolaaDoor
open Go.RowKit Go.Deep Go.ChangeShapes
set_option linter.unusedVariables false

theorem nums_range (n : Nat) (f : Nat → Int) {i : Nat} (h : i < n) : ((List.range n).map f).getD i 0 = f i := by
  rw [List.getD_eq_getElem?_getD, List.getElem?_map, List.getElem?_range h]
  rfl
set_option maxRecDepth 100000 in
theorem open_nums {H : Type} {enc : TypeId × Value → H} {w : World} {fuel : Nat} {a : Option Addr} {len cap : Nat} {x : DataW H × List MemPlace}
    (h : DataW.trod enc Tryd.prog w 0 (fun _ => true) true fuel 26 [.slice a len cap] = some x) : ∃ L : List Int, L.length = len ∧ Nums w a L len ∧ len ≤ maxLen := by
  rcases open_slice Tryd.underlying26 h with ⟨hcs, _⟩ | ⟨a', l, c, m, n, D, Pl, hcs, _, hl, hm, hmm, _, hel⟩
  · simp at hcs
    obtain ⟨rfl, rfl, rfl⟩ := hcs
    exact ⟨[], rfl, .inl rfl, Nat.zero_le _⟩
  · simp at hcs
    obtain ⟨rfl, rfl, rfl⟩ := hcs
    have hlm : len ≤ m := by rw [hmm]; simp; exact hl
    have each : ∀ i, i < len → ∃ z : Int, w.cell? (a'.add i) = some (.int .i64 z) := by
      intro i hi
      obtain ⟨cs, h1, h2⟩ := hel i (by omega)
      rw [cellsDI] at h1
      obtain ⟨_, hlen, hcell⟩ := World.cells?_some h1
      match cs, hlen with
      | [v1], _ =>
        obtain ⟨i1, e1, _, _⟩ := DataW.trod_int Tryd.underlying2 h2
        simp at e1
        subst e1
        have c0 := hcell 0 (by omega)
        rw [add_add] at c0
        exact ⟨i1, by simpa using c0⟩
    obtain ⟨f, hf⟩ := choose_lt each
    refine ⟨(List.range len).map f, by simp, ?_, by omega⟩
    rcases Nat.eq_zero_or_pos len with h0 | h0
    · exact .inl h0
    · have hs : (a'.add 0).spot = none := spot_noneD (hf 0 h0)
      have hb : (a'.add 0).block < w.heap.size := World.block_lt_of_cell? w _ (hf 0 h0)
      obtain ⟨bx, ox, sx⟩ := a'
      have hs' : sx = none := by simpa [Addr.add] using hs
      subst hs'
      have hA : ∀ j, (⟨bx, ox, none⟩ : Addr).add j = ⟨bx, ox + j, none⟩ := fun j => by unfold Addr.add; split <;> simp_all
      refine .inr ⟨bx, ox, rfl, by simpa [Addr.add] using hb, fun i hi => ?_⟩
      have c0 := hf i hi
      rw [hA] at c0
      rw [nums_range len f hi]
      exact c0
end Go.Proofs.YtjdehbpgdplolaaDoor
