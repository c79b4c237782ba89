/- Several texts in one: ModC, RowR, ModD, ModE, ModG, AppO, ModH, ModB. -/
import Derived.Deep.RegionHeld
import Derived.Deep.DeepCutAuto
import Derived.Test.YteoonaanoenjiaaGreatDoorQObeyOwn16
import Derived.Test.YteoonaanoenjiaaGreatDoorQObeyOwn11
import Derived.Test.YteoonaanoenjiaaGreatDoorQObeyOwn10
namespace Go.Proofs.YteoonaanoenjiaaGreatDoor
open Go.RowKit Go.Sort
set_option linter.unusedVariables false
set_option maxRecDepth 100000 in
theorem szTracker_any (a : Option Addr) (n c : Nat) (lim mode A B C D coast fr : Int) (w : World) (hn : n ≤ 1048576) :
    Calls Tryz.prog 5 #[.agg #[.slice a n c, .int .i64 lim, .int .i64 mode, .int .i64 A, .int .i64 B, .int .i64 C, .int .i64 D, .int .i64 coast, .int .i64 fr], .int .i64 1048576] w fun e w' => e = .returned (.int .i64 (1048576 - (n : Int))) ∧ Below w.heap.size w w' := by
  have h0 : ¬ (1048576 : Int) - (n : Int) < 0 := by omega
  go_enter Tryz.func5, Tryz.ntmps5
  go_wp2_with fail
  refine (szStarS_any a n c _ hn).mono ?_
  rintro e w1 ⟨rfl, hw⟩
  rw [hw]
  clear hw w1
  go_wp2_with fail
  go_ret
  exact ⟨rfl, below1 _ _⟩
set_option maxRecDepth 100000 in
theorem szTracker_big (a : Option Addr) (n c : Nat) (lim mode A B C D coast fr : Int) (w : World) (hn : 1048576 < n) (hm : n ≤ 9223372036854775807) :
    Calls Tryz.prog 5 #[.agg #[.slice a n c, .int .i64 lim, .int .i64 mode, .int .i64 A, .int .i64 B, .int .i64 C, .int .i64 D, .int .i64 coast, .int .i64 fr], .int .i64 1048576] w fun e w' => e = .returned (.int .i64 (-1)) ∧ Below w.heap.size w w' := by
  go_enter Tryz.func5, Tryz.ntmps5
  go_wp2_with fail
  refine (szStarS_big a n c _ hn hm).mono ?_
  rintro e w1 ⟨rfl, hw⟩
  rw [hw]
  clear hw w1
  go_wp2_with fail
  go_ret
  exact ⟨rfl, below1 _ _⟩
set_option maxRecDepth 100000 in
theorem toTurn_any' (p q r s : Int) (w : World) :
    Calls Tryz.prog 31 #[.agg #[.int .i64 p, .int .i64 q, .int .i64 r, .int .i64 s]] w fun e w' => e = .returned (.agg #[.int .i64 p, .int .i64 q, .int .i64 r, .int .i64 s]) ∧ Below w.heap.size w w' := by
  go_enter Tryz.func31, Tryz.ntmps31
  go_wp2
  exact bodyPost_ret (v := .agg #[.int .i64 p, .int .i64 q, .int .i64 r, .int .i64 s]) (by simp [results, Tryz.results31, go_sem]) rfl ⟨rfl, below3 _ _ _ _⟩
set_option maxRecDepth 100000 in
theorem eqTurn_same' (p q r s : Int) (w : World) :
    Calls Tryz.prog 38 #[.agg #[.int .i64 p, .int .i64 q, .int .i64 r, .int .i64 s], .agg #[.int .i64 p, .int .i64 q, .int .i64 r, .int .i64 s]] w fun e w' => e = .returned (.bool true) ∧ Below w.heap.size w w' := by
  go_enter Tryz.func38, Tryz.ntmps38
  go_wp2
  go_ret
  exact ⟨rfl, below2 _ _ _⟩
set_option maxHeartbeats 2000000 in
set_option maxRecDepth 100000 in
theorem eqTracker_same (L : List St) (n : Nat) (lim mode A B C D coast fr : Int) (a a' : Option Addr) (c c' : Nat) (w : World) (hn : n ≤ 1048576) (hS : Stars w a L n) (hS' : Stars w a' L n) :
    Calls Tryz.prog 12 #[.agg #[.slice a n c, .int .i64 lim, .int .i64 mode, .int .i64 A, .int .i64 B, .int .i64 C, .int .i64 D, .int .i64 coast, .int .i64 fr], .agg #[.slice a' n c', .int .i64 lim, .int .i64 mode, .int .i64 A, .int .i64 B, .int .i64 C, .int .i64 D, .int .i64 coast, .int .i64 fr]] w fun e w' => e = .returned (.bool true) ∧ Below w.heap.size w w' := by
  have B1 := yz (below2 w (.cells #[.slice a n c, .int .i64 lim, .int .i64 mode, .int .i64 A, .int .i64 B, .int .i64 C, .int .i64 D, .int .i64 coast, .int .i64 fr] 37) (.cells #[.slice a' n c', .int .i64 lim, .int .i64 mode, .int .i64 A, .int .i64 B, .int .i64 C, .int .i64 D, .int .i64 coast, .int .i64 fr] 37))
  have O1 : Hid (TkAt ((w.alloc (.cells #[.slice a n c, .int .i64 lim, .int .i64 mode, .int .i64 A, .int .i64 B, .int .i64 C, .int .i64 D, .int .i64 coast, .int .i64 fr] 37)).alloc (.cells #[.slice a' n c', .int .i64 lim, .int .i64 mode, .int .i64 A, .int .i64 B, .int .i64 C, .int .i64 D, .int .i64 coast, .int .i64 fr] 37)) w.heap.size (.slice a n c) lim mode A B C D coast fr) := yz ((tkAt_new w _ _ _ _ _ _ _ _ _ _).kept (below1 _ _))
  have O2 : Hid (TkAt ((w.alloc (.cells #[.slice a n c, .int .i64 lim, .int .i64 mode, .int .i64 A, .int .i64 B, .int .i64 C, .int .i64 D, .int .i64 coast, .int .i64 fr] 37)).alloc (.cells #[.slice a' n c', .int .i64 lim, .int .i64 mode, .int .i64 A, .int .i64 B, .int .i64 C, .int .i64 D, .int .i64 coast, .int .i64 fr] 37)) (w.heap.size + 1) (.slice a' n c') lim mode A B C D coast fr) := yz (by simpa using tkAt_new (w.alloc (.cells #[.slice a n c, .int .i64 lim, .int .i64 mode, .int .i64 A, .int .i64 B, .int .i64 C, .int .i64 D, .int .i64 coast, .int .i64 fr] 37)) (.slice a' n c') lim mode A B C D coast fr 37)
  have cE := yz (eqStarS_same L n a a' c c' _ hn (hS.kept (yx B1)) (hS'.kept (yx B1)))
  clear hS hS'
  go_enter Tryz.func12, Tryz.ntmps12
  go_wp2_with fail
  refine (yx cE).mono ?_
  rintro e w1 ⟨rfl, hx⟩
  have P1 := yz ((yx O1).kept hx)
  have P2 := yz ((yx O2).kept hx)
  obtain ⟨p0, p1, p2, p3, p4, p5, p6, p7, p8⟩ := yx P1
  obtain ⟨q0, q1, q2, q3, q4, q5, q6, q7, q8⟩ := yx P2
  have B2 := yz (below_call (yx B1) hx)
  clear hx B1 O1 O2 cE
  go_wp2_with fail
  clear p0 p1 p2 p3 p4 p5 p6 p7 p8 q0 q1 q2 q3 q4 q5 q6 q7 q8
  refine (eqTurn_same' A B C D _).mono ?_
  rintro e w2 ⟨rfl, hx⟩
  obtain ⟨p0, p1, p2, p3, p4, p5, p6, p7, p8⟩ := (yx P1).kept hx
  obtain ⟨q0, q1, q2, q3, q4, q5, q6, q7, q8⟩ := (yx P2).kept hx
  have B3 := yz (below_call (yx B2) hx)
  clear hx B2 P1 P2
  go_wp2_with fail
  go_ret
  exact ⟨rfl, yx B3⟩
def OwnR (w : World) (a : Option Addr) (n : Nat) (row : Option Nat) : Prop := (n = 0 ∧ row = none) ∨ ∃ g f, a = some ⟨g, 0, none⟩ ∧ row = some g ∧ RowAt w 113 g (n * 4) f
def Mkd (w : World) (a : Option Addr) (n : Nat) (row : Option Nat) : Prop := (n = 0 ∧ row = none) ∨ ∃ g, a = some ⟨g, 0, none⟩ ∧ row = some g ∧ RowAt w 113 g (n * 4) (fun j => 1 + (j : Int))
theorem OwnR.kept {w w' : World} {a : Option Addr} {n : Nat} {row : Option Nat} (h : OwnR w a n row) (hB : Below w.heap.size w w') : OwnR w' a n row := by
  rcases h with h | ⟨g, f, h1, h2, h3⟩
  · exact .inl h
  · exact .inr ⟨g, f, h1, h2, h3.kept hB⟩
theorem Mkd.kept {w w' : World} {a : Option Addr} {n : Nat} {row : Option Nat} (h : Mkd w a n row) (hB : Below w.heap.size w w') : Mkd w' a n row := by
  rcases h with h | ⟨g, h1, h2, h3⟩
  · exact .inl h
  · exact .inr ⟨g, h1, h2, h3.kept hB⟩
theorem OwnR.lt {w : World} {a : Option Addr} {n : Nat} {row : Option Nat} (h : OwnR w a n row) {g : Nat} (e : row = some g) : g < w.heap.size := by
  rcases h with ⟨_, h⟩ | ⟨g', f, h1, h2, h3⟩
  · rw [h] at e; cases e
  · rw [h2] at e; obtain rfl := Option.some.inj e; exact h3.lt
theorem belowR {B : Nat} {w w1 w2 : World} {row : Option Nat} (h : Below B w w1) (hg : w1.grownBy w2 row) (hB : B ≤ w1.heap.size) (hr : ∀ g, row = some g → B ≤ g) : Below B w w2 :=
  h.trans ⟨hg.os, hg.tape, hg.output, hg.size, fun k hk => hg.block k (by omega) (fun e => by have := hr k e.symm; omega)⟩
def flatSt (L : List St) : List Value := L.flatMap stC
theorem flatSt_len (L : List St) : (flatSt L).length = L.length * 4 := by
  unfold flatSt
  induction L with
  | nil => rfl
  | cons x l ih => simp [List.flatMap_cons, stC] at *; omega
theorem flatSt_at (L : List St) : ∀ (i : Nat), i < L.length → (flatSt L)[i * 4]? = some (.int .i64 (stA L i).1) ∧ (flatSt L)[i * 4 + 1]? = some (.int .i64 (stA L i).2.1) ∧ (flatSt L)[i * 4 + 2]? = some (.int .i64 (stA L i).2.2.1) ∧ (flatSt L)[i * 4 + 3]? = some (.int .i64 (stA L i).2.2.2) := by
  induction L with
  | nil => intro i hi; simp at hi
  | cons x l ih =>
    intro i hi
    match i with
    | 0 => exact ⟨rfl, rfl, rfl, rfl⟩
    | i + 1 =>
      have h := ih i (by simpa using hi)
      have e : ∀ r, (flatSt (x :: l))[(i + 1) * 4 + r]? = (flatSt l)[i * 4 + r]? := fun r => by
        rw [show (i + 1) * 4 + r = (i * 4 + r) + 4 by omega]
        rfl
      have e2 : stA (x :: l) (i + 1) = stA l i := rfl
      rw [e2]
      exact ⟨by have := e 0; simp only [Nat.add_zero] at this; rw [this]; exact h.1, by rw [e 1]; exact h.2.1, by rw [e 2]; exact h.2.2.1, by rw [e 3]; exact h.2.2.2⟩
theorem own_stars {w : World} {B : Nat} {v : Value} {L : List St} (h : w.ownsRow B 113 4 v L.length (flatSt L)) : ∃ a cap, v = .slice a L.length cap ∧ L.length ≤ cap ∧ cap ≤ maxLen ∧ Stars w a L L.length := by
  rcases h.2 with ⟨h1, h0⟩ | ⟨g, cap, cur, hv, hb, hg, hnc, hcm, hcs, htake⟩
  · exact ⟨none, 0, by rw [h1, h0], by omega, Nat.zero_le _, .inl h0⟩
  · refine ⟨_, cap, hv, hnc, hcm, .inr ⟨g, 0, rfl, (Array.getElem?_eq_some_iff.1 hg).1, fun i hi => ?_⟩⟩
    have hc : ∀ j, j < L.length * 4 → w.cell? ⟨g, j, none⟩ = (flatSt L)[j]? := fun j hj => by
      rw [cell_of_row w g j cur _ _ hg, ← htake, List.getElem?_take, if_pos hj]
      simp
    obtain ⟨e0, e1, e2, e3⟩ := flatSt_at L i hi
    rw [Nat.zero_add]
    exact ⟨by rw [hc _ (by omega)]; exact e0, by rw [hc _ (by omega)]; exact e1, by rw [hc _ (by omega)]; exact e2, by rw [hc _ (by omega)]; exact e3⟩
theorem flatSt_int (L : List St) (j : Nat) (hj : j < L.length * 4) : ∃ z, (flatSt L)[j]? = some (.int .i64 z) := by
  obtain ⟨e0, e1, e2, e3⟩ := flatSt_at L (j / 4) (by omega)
  have h : j = j / 4 * 4 ∨ j = j / 4 * 4 + 1 ∨ j = j / 4 * 4 + 2 ∨ j = j / 4 * 4 + 3 := by omega
  rcases h with h | h | h | h
  · rw [h]; exact ⟨_, e0⟩
  · rw [h]; exact ⟨_, e1⟩
  · rw [h]; exact ⟨_, e2⟩
  · rw [h]; exact ⟨_, e3⟩
theorem own_row {w : World} {B : Nat} {v : Value} {L : List St} {a : Option Addr} {cap : Nat} (h : w.ownsRow B 113 4 v L.length (flatSt L)) (hv : v = .slice a L.length cap) : ∃ row, OwnR w a L.length row ∧ ∀ g, row = some g → B ≤ g := by
  rcases h.2 with ⟨h1, h0⟩ | ⟨g, cap', cur, hv', hb, hg, hnc, hcm, hcs, htake⟩
  · exact ⟨none, .inl ⟨h0, rfl⟩, fun g e => by cases e⟩
  · rw [hv] at hv'
    injection hv' with e1 e2 e3
    refine ⟨some g, .inr ⟨g, fun j => if h : j < L.length * 4 then Classical.choose (flatSt_int L j h) else 0, e1, rfl, cur, hg, fun j hj => ?_⟩, fun g' e => by obtain rfl := Option.some.inj e; exact hb⟩
    have e4 : cur[j]? = (flatSt L)[j]? := by
      rw [← htake, List.getElem?_take, if_pos hj]
      simp
    rw [e4]
    simp only [hj, dif_pos]
    exact Classical.choose_spec (flatSt_int L j hj)
def FreeK (w : World) (b : Nat) : Prop := ∀ i, w.frozen? ⟨b, i, none⟩ = false
theorem FreeK.kept {w w' : World} {b : Nat} (h : FreeK w b) (hb : b < w.heap.size) (hB : Below w.heap.size w w') : FreeK w' b := fun i => (hB.frozen (p := ⟨b, i, none⟩) hb).trans (h i)
theorem freeK_new (w : World) (cs : Array Value) (t : TypeId) : FreeK (w.alloc (.cells cs t)) w.heap.size := fun i => by simp
theorem FreeK.set {w : World} {b : Nat} (h : FreeK w b) (p : Addr) (v : Value) : FreeK (w.setCell p v) b := fun i => by rw [World.frozen?_setCell]; exact h i
theorem OwnS.far {w : World} {b n k : Nat} {L : List St} (h : OwnS w b n L k) {b' : Nat} (hne : b ≠ b') (o : Nat) (x : Value) : OwnS (w.setCell ⟨b', o, none⟩ x) b n L k := by
  obtain ⟨cur, hc, r⟩ := h
  exact ⟨cur, by rw [Below.heap_setCell w ⟨b', o, none⟩ x b hne]; exact hc, r⟩
theorem TkAt.far {w : World} {b : Nat} {v : Value} {lim mode A B C D coast fr : Int} (h : TkAt w b v lim mode A B C D coast fr) {b' : Nat} (hne : b ≠ b') (o : Nat) (x : Value) : TkAt (w.setCell ⟨b', o, none⟩ x) b v lim mode A B C D coast fr := by
  obtain ⟨h0, h1, h2, h3, h4, h5, h6, h7, h8⟩ := h
  refine ⟨?_, ?_, ?_, ?_, ?_, ?_, ?_, ?_, ?_⟩ <;> (rw [World.cell?_setCell_far _ _ _ _ (Ne.symm hne)]; assumption)
theorem tkAt_set3 {w : World} {b : Nat} {u : Value} {lim0 mode0 A B C D coast fr : Int} (h : TkAt w b u lim0 mode0 A B C D coast fr) (v : Value) (lim mode : Int) : TkAt (((w.setCell ⟨b, 0, none⟩ v).setCell ⟨b, 1, none⟩ (.int .i64 lim)).setCell ⟨b, 2, none⟩ (.int .i64 mode)) b v lim mode A B C D coast fr := by
  obtain ⟨h0, h1, h2, h3, h4, h5, h6, h7, h8⟩ := h
  refine ⟨?_, ?_, ?_, ?_, ?_, ?_, ?_, ?_, ?_⟩ <;> simp [go_sem, h0, h1, h2, h3, h4, h5, h6, h7, h8]
theorem tkAt_set9 {w : World} {b : Nat} {u : Value} {lim0 mode0 A0 B0 C0 D0 coast0 fr0 : Int} (h : TkAt w b u lim0 mode0 A0 B0 C0 D0 coast0 fr0) (v : Value) (lim mode A B C D coast fr : Int) : TkAt (((((((((w.setCell ⟨b, 0, none⟩ v).setCell ⟨b, 1, none⟩ (.int .i64 lim)).setCell ⟨b, 2, none⟩ (.int .i64 mode)).setCell ⟨b, 3, none⟩ (.int .i64 A)).setCell ⟨b, 4, none⟩ (.int .i64 B)).setCell ⟨b, 5, none⟩ (.int .i64 C)).setCell ⟨b, 6, none⟩ (.int .i64 D)).setCell ⟨b, 7, none⟩ (.int .i64 coast)).setCell ⟨b, 8, none⟩ (.int .i64 fr)) b v lim mode A B C D coast fr := by
  obtain ⟨h0, h1, h2, h3, h4, h5, h6, h7, h8⟩ := h
  refine ⟨?_, ?_, ?_, ?_, ?_, ?_, ?_, ?_, ?_⟩ <;> simp [go_sem, h0, h1, h2, h3, h4, h5, h6, h7, h8]
theorem res_toTracker (T : Array Value) (X : World) (b : Nat) (v : Value) (lim mode A B C D coast fr : Int) (hT : T.getD 2 undef = .pointer (some ⟨b, 0, none⟩)) (h : TkAt X b v lim mode A B C D coast fr) : (results Tryz.f8 T).run Tryz.prog X = .ok (.agg #[v, .int .i64 lim, .int .i64 mode, .int .i64 A, .int .i64 B, .int .i64 C, .int .i64 D, .int .i64 coast, .int .i64 fr]) X := by
  obtain ⟨h0, h1, h2, h3, h4, h5, h6, h7, h8⟩ := h
  simp only [Array.getD_eq_getD_getElem?] at hT
  simp [results, Tryz.results8, go_sem, hT, h0, h1, h2, h3, h4, h5, h6, h7, h8]
theorem belowSet {B : Nat} {w w1 : World} (h : Below B w w1) {b : Nat} (hb : B ≤ b) (o : Nat) (v : Value) : Below B w (w1.setCell ⟨b, o, none⟩ v) := h.setCell hb v
set_option maxHeartbeats 4000000 in
set_option maxRecDepth 100000 in
theorem toTracker_any (L : List St) (lim mode A B C D coast fr : Int) (a : Option Addr) (c : Nat) (w : World) (hn : L.length ≤ 1048576) (hS : Stars w a L L.length) :
    Calls Tryz.prog 8 #[.agg #[.slice a L.length c, .int .i64 lim, .int .i64 mode, .int .i64 A, .int .i64 B, .int .i64 C, .int .i64 D, .int .i64 coast, .int .i64 fr]] w fun e w' => ∃ b, e = .returned (.agg #[.slice (some ⟨b, 0, none⟩) L.length L.length, .int .i64 lim, .int .i64 mode, .int .i64 A, .int .i64 B, .int .i64 C, .int .i64 D, .int .i64 coast, .int .i64 fr]) ∧ OwnS w' b L.length L L.length ∧ w.heap.size ≤ b ∧ Below w.heap.size w w' := by
  have B0 := below3 w (.cells #[.slice a L.length c, .int .i64 lim, .int .i64 mode, .int .i64 A, .int .i64 B, .int .i64 C, .int .i64 D, .int .i64 coast, .int .i64 fr] 26) (.cells #[.slice none 0 0, .int .i64 0, .int .i64 0, .int .i64 0, .int .i64 0, .int .i64 0, .int .i64 0, .int .i64 0, .int .i64 0] 37) (.cells #[.slice none 0 0, .int .i64 0, .int .i64 0, .int .i64 0, .int .i64 0, .int .i64 0, .int .i64 0, .int .i64 0, .int .i64 0] 37)
  have S0 := tkAt_new w (.slice a L.length c) lim mode A B C D coast fr 26
  have S0' := (S0.kept (below1 _ (.cells #[.slice none 0 0, .int .i64 0, .int .i64 0, .int .i64 0, .int .i64 0, .int .i64 0, .int .i64 0, .int .i64 0, .int .i64 0] 37))).kept (below1 _ (.cells #[.slice none 0 0, .int .i64 0, .int .i64 0, .int .i64 0, .int .i64 0, .int .i64 0, .int .i64 0, .int .i64 0, .int .i64 0] 37))
  have R0 := (by simpa using tkAt_new (w.alloc (.cells #[.slice a L.length c, .int .i64 lim, .int .i64 mode, .int .i64 A, .int .i64 B, .int .i64 C, .int .i64 D, .int .i64 coast, .int .i64 fr] 26)) (.slice none 0 0) 0 0 0 0 0 0 0 0 37 : TkAt ((w.alloc (.cells #[.slice a L.length c, .int .i64 lim, .int .i64 mode, .int .i64 A, .int .i64 B, .int .i64 C, .int .i64 D, .int .i64 coast, .int .i64 fr] 26)).alloc (.cells #[.slice none 0 0, .int .i64 0, .int .i64 0, .int .i64 0, .int .i64 0, .int .i64 0, .int .i64 0, .int .i64 0, .int .i64 0] 37)) (w.heap.size + 1) (.slice none 0 0) 0 0 0 0 0 0 0 0)
  have R0' := R0.kept (below1 _ (.cells #[.slice none 0 0, .int .i64 0, .int .i64 0, .int .i64 0, .int .i64 0, .int .i64 0, .int .i64 0, .int .i64 0, .int .i64 0] 37))
  have U0 := (by simpa using tkAt_new ((w.alloc (.cells #[.slice a L.length c, .int .i64 lim, .int .i64 mode, .int .i64 A, .int .i64 B, .int .i64 C, .int .i64 D, .int .i64 coast, .int .i64 fr] 26)).alloc (.cells #[.slice none 0 0, .int .i64 0, .int .i64 0, .int .i64 0, .int .i64 0, .int .i64 0, .int .i64 0, .int .i64 0, .int .i64 0] 37)) (.slice none 0 0) 0 0 0 0 0 0 0 0 37 : TkAt (((w.alloc (.cells #[.slice a L.length c, .int .i64 lim, .int .i64 mode, .int .i64 A, .int .i64 B, .int .i64 C, .int .i64 D, .int .i64 coast, .int .i64 fr] 26)).alloc (.cells #[.slice none 0 0, .int .i64 0, .int .i64 0, .int .i64 0, .int .i64 0, .int .i64 0, .int .i64 0, .int .i64 0, .int .i64 0] 37)).alloc (.cells #[.slice none 0 0, .int .i64 0, .int .i64 0, .int .i64 0, .int .i64 0, .int .i64 0, .int .i64 0, .int .i64 0, .int .i64 0] 37)) (w.heap.size + 1 + 1) (.slice none 0 0) 0 0 0 0 0 0 0 0)
  have F1 := (by simpa using freeK_new (w.alloc (.cells #[.slice a L.length c, .int .i64 lim, .int .i64 mode, .int .i64 A, .int .i64 B, .int .i64 C, .int .i64 D, .int .i64 coast, .int .i64 fr] 26)) #[.slice none 0 0, .int .i64 0, .int .i64 0, .int .i64 0, .int .i64 0, .int .i64 0, .int .i64 0, .int .i64 0, .int .i64 0] 37 : FreeK ((w.alloc (.cells #[.slice a L.length c, .int .i64 lim, .int .i64 mode, .int .i64 A, .int .i64 B, .int .i64 C, .int .i64 D, .int .i64 coast, .int .i64 fr] 26)).alloc (.cells #[.slice none 0 0, .int .i64 0, .int .i64 0, .int .i64 0, .int .i64 0, .int .i64 0, .int .i64 0, .int .i64 0, .int .i64 0] 37)) (w.heap.size + 1))
  have F1' := F1.kept (by simp) (below1 _ (.cells #[.slice none 0 0, .int .i64 0, .int .i64 0, .int .i64 0, .int .i64 0, .int .i64 0, .int .i64 0, .int .i64 0, .int .i64 0] 37))
  have F2 := (by simpa using freeK_new ((w.alloc (.cells #[.slice a L.length c, .int .i64 lim, .int .i64 mode, .int .i64 A, .int .i64 B, .int .i64 C, .int .i64 D, .int .i64 coast, .int .i64 fr] 26)).alloc (.cells #[.slice none 0 0, .int .i64 0, .int .i64 0, .int .i64 0, .int .i64 0, .int .i64 0, .int .i64 0, .int .i64 0, .int .i64 0] 37)) #[.slice none 0 0, .int .i64 0, .int .i64 0, .int .i64 0, .int .i64 0, .int .i64 0, .int .i64 0, .int .i64 0, .int .i64 0] 37 : FreeK (((w.alloc (.cells #[.slice a L.length c, .int .i64 lim, .int .i64 mode, .int .i64 A, .int .i64 B, .int .i64 C, .int .i64 D, .int .i64 coast, .int .i64 fr] 26)).alloc (.cells #[.slice none 0 0, .int .i64 0, .int .i64 0, .int .i64 0, .int .i64 0, .int .i64 0, .int .i64 0, .int .i64 0, .int .i64 0] 37)).alloc (.cells #[.slice none 0 0, .int .i64 0, .int .i64 0, .int .i64 0, .int .i64 0, .int .i64 0, .int .i64 0, .int .i64 0, .int .i64 0] 37)) (w.heap.size + 1 + 1))
  have cT := yz (toStarS_any L a c _ hn (hS.kept B0))
  have HB := yz B0
  have HS := yz S0'
  have HR := yz R0'
  have HU := yz U0
  have HF := yz F1'
  have HG := yz F2
  clear B0 S0 S0' R0 R0' U0 F1 F1' F2 hS
  go_enter Tryz.func8, Tryz.ntmps8
  go_wp2_with fail
  refine (yx cT).mono ?_
  rintro e w1 ⟨rfl, ho, hx⟩
  have O1 := yz ho
  have S1 := yz ((yx HS).kept hx)
  have R1 := yz ((yx HR).kept hx)
  have U1 := yz ((yx HU).kept hx)
  have F1 := yz ((yx HF).kept (yx HR).lt hx)
  have G1 := yz ((yx HG).kept (yx HU).lt hx)
  have B1 := yz (below_call (yx HB) hx)
  have hb : (((w.alloc (.cells #[.slice a L.length c, .int .i64 lim, .int .i64 mode, .int .i64 A, .int .i64 B, .int .i64 C, .int .i64 D, .int .i64 coast, .int .i64 fr] 26)).alloc (.cells #[.slice none 0 0, .int .i64 0, .int .i64 0, .int .i64 0, .int .i64 0, .int .i64 0, .int .i64 0, .int .i64 0, .int .i64 0] 37)).alloc (.cells #[.slice none 0 0, .int .i64 0, .int .i64 0, .int .i64 0, .int .i64 0, .int .i64 0, .int .i64 0, .int .i64 0, .int .i64 0] 37)).heap.size = w.heap.size + 1 + 1 + 1 := by simp
  rw [hb] at O1 ⊢
  clear hb ho hx HB HS HR HU HF HG cT
  obtain ⟨s0, s1, s2, s3, s4, s5, s6, s7, s8⟩ := yx S1
  obtain ⟨u0, u1, u2, u3, u4, u5, u6, u7, u8⟩ := yx U1
  have g0 := yx G1 0
  have g1 := yx G1 1
  have g2 := yx G1 2
  go_wp2_with fail
  clear s0 s1 s2 s3 s4 s5 s6 s7 s8 u0 u1 u2 u3 u4 u5 u6 u7 u8 g0 g1 g2
  refine (toTurn_any' A B C D _).mono ?_
  rintro e w2 ⟨rfl, hx⟩
  have Y1 := belowSet (belowSet (belowSet (yx B1) (b := w.heap.size + 1 + 1) (by omega) 0 (.slice (some ⟨w.heap.size + 1 + 1 + 1, 0, none⟩) L.length L.length)) (b := w.heap.size + 1 + 1) (by omega) 1 (.int .i64 lim)) (b := w.heap.size + 1 + 1) (by omega) 2 (.int .i64 mode)
  have S2 := ((((yx S1).far (b' := w.heap.size + 1 + 1) (by omega) 0 (.slice (some ⟨w.heap.size + 1 + 1 + 1, 0, none⟩) L.length L.length)).far (b' := w.heap.size + 1 + 1) (by omega) 1 (.int .i64 lim)).far (b' := w.heap.size + 1 + 1) (by omega) 2 (.int .i64 mode)).kept hx
  have R2 := ((((yx R1).far (b' := w.heap.size + 1 + 1) (by omega) 0 (.slice (some ⟨w.heap.size + 1 + 1 + 1, 0, none⟩) L.length L.length)).far (b' := w.heap.size + 1 + 1) (by omega) 1 (.int .i64 lim)).far (b' := w.heap.size + 1 + 1) (by omega) 2 (.int .i64 mode))
  have U2 := tkAt_set3 (yx U1) (.slice (some ⟨w.heap.size + 1 + 1 + 1, 0, none⟩) L.length L.length) lim mode
  have G2 := yz (((((yx G1).set ⟨w.heap.size + 1 + 1, 0, none⟩ (.slice (some ⟨w.heap.size + 1 + 1 + 1, 0, none⟩) L.length L.length)).set ⟨w.heap.size + 1 + 1, 1, none⟩ (.int .i64 lim)).set ⟨w.heap.size + 1 + 1, 2, none⟩ (.int .i64 mode)).kept U2.lt hx)
  have F2 := yz (((((yx F1).set ⟨w.heap.size + 1 + 1, 0, none⟩ (.slice (some ⟨w.heap.size + 1 + 1 + 1, 0, none⟩) L.length L.length)).set ⟨w.heap.size + 1 + 1, 1, none⟩ (.int .i64 lim)).set ⟨w.heap.size + 1 + 1, 2, none⟩ (.int .i64 mode)).kept R2.lt hx)
  have O2 := yz (((((yx O1).far (b' := w.heap.size + 1 + 1) (by omega) 0 (.slice (some ⟨w.heap.size + 1 + 1 + 1, 0, none⟩) L.length L.length)).far (b' := w.heap.size + 1 + 1) (by omega) 1 (.int .i64 lim)).far (b' := w.heap.size + 1 + 1) (by omega) 2 (.int .i64 mode)).kept hx)
  have B2 := yz (below_call Y1 hx)
  obtain ⟨s0, s1, s2, s3, s4, s5, s6, s7, s8⟩ := S2
  obtain ⟨u0, u1, u2, u3, u4, u5, u6, u7, u8⟩ := U2.kept hx
  have R3 := yz (R2.kept hx)
  obtain ⟨r0, r1, r2, r3, r4, r5, r6, r7, r8⟩ := yx R3
  have g3 := yx G2 3
  have g4 := yx G2 4
  have g5 := yx G2 5
  have g6 := yx G2 6
  have g7 := yx G2 7
  have g8 := yx G2 8
  have f0 := yx F2 0
  have f1 := yx F2 1
  have f2 := yx F2 2
  have f3 := yx F2 3
  have f4 := yx F2 4
  have f5 := yx F2 5
  have f6 := yx F2 6
  have f7 := yx F2 7
  have f8 := yx F2 8
  clear hx Y1 U2 R2 S1 R1 U1 F1 G1 B1 O1 G2 F2
  go_wp2_with fail
  refine bodyPost_ret (v := .agg #[.slice (some ⟨w.heap.size + 1 + 1 + 1, 0, none⟩) L.length L.length, .int .i64 lim, .int .i64 mode, .int .i64 A, .int .i64 B, .int .i64 C, .int .i64 D, .int .i64 coast, .int .i64 fr]) ?_ rfl ?_
  · refine res_toTracker _ _ (w.heap.size + 1) _ lim mode A B C D coast fr rfl ?_
    refine tkAt_set9 (lim0 := 0) (mode0 := 0) (A0 := 0) (B0 := 0) (C0 := 0) (D0 := 0) (coast0 := 0) (fr0 := 0) (u := .slice none 0 0) ?_ _ lim mode A B C D coast fr
    iterate 6 (refine TkAt.far ?_ (show w.heap.size + 1 ≠ w.heap.size + 1 + 1 by omega) _ _)
    exact yx R3
  · refine ⟨w.heap.size + 1 + 1 + 1, rfl, ?_, by omega, ?_⟩
    · iterate 9 (refine OwnS.far ?_ (show w.heap.size + 1 + 1 + 1 ≠ w.heap.size + 1 by omega) _ _)
      iterate 6 (refine OwnS.far ?_ (show w.heap.size + 1 + 1 + 1 ≠ w.heap.size + 1 + 1 by omega) _ _)
      exact yx O2
    · iterate 15 (refine belowSet ?_ (by omega) _ _)
      exact yx B2
def TkO (w : World) (b : Nat) (v : Value) (lim mode A B C D coast fr code : Int) : Prop := TkAt w b v lim mode A B C D coast fr ∧ w.cell? ⟨b, 9, none⟩ = some (.int .i64 code)
theorem TkO.kept {w w' : World} {b : Nat} {v : Value} {lim mode A B C D coast fr code : Int} (h : TkO w b v lim mode A B C D coast fr code) (hB : Below w.heap.size w w') : TkO w' b v lim mode A B C D coast fr code := ⟨h.1.kept hB, cellK h.2 hB⟩
theorem tkO_new (w : World) (v : Value) (lim mode A B C D coast fr code : Int) (t : TypeId) : TkO (w.alloc (.cells #[v, .int .i64 lim, .int .i64 mode, .int .i64 A, .int .i64 B, .int .i64 C, .int .i64 D, .int .i64 coast, .int .i64 fr, .int .i64 code] t)) w.heap.size v lim mode A B C D coast fr code := by
  refine ⟨⟨?_, ?_, ?_, ?_, ?_, ?_, ?_, ?_, ?_⟩, ?_⟩ <;> simp
theorem cellG {w w' : World} {a : Addr} {v : Value} {row : Option Nat} (h : w.cell? a = some v) (hg : w.grownBy w' row) (hne : some a.block ≠ row) : w'.cell? a = some v := (World.cell?_of_block (hg.block a.block (World.block_lt_of_cell? w a h) hne)).trans h
theorem TkAt.grown {w w' : World} {b : Nat} {v : Value} {lim mode A B C D coast fr : Int} {row : Option Nat} (h : TkAt w b v lim mode A B C D coast fr) (hg : w.grownBy w' row) (hne : some b ≠ row) : TkAt w' b v lim mode A B C D coast fr := by
  obtain ⟨h0, h1, h2, h3, h4, h5, h6, h7, h8⟩ := h
  exact ⟨cellG h0 hg hne, cellG h1 hg hne, cellG h2 hg hne, cellG h3 hg hne, cellG h4 hg hne, cellG h5 hg hne, cellG h6 hg hne, cellG h7 hg hne, cellG h8 hg hne⟩
theorem TkO.grown {w w' : World} {b : Nat} {v : Value} {lim mode A B C D coast fr code : Int} {row : Option Nat} (h : TkO w b v lim mode A B C D coast fr code) (hg : w.grownBy w' row) (hne : some b ≠ row) : TkO w' b v lim mode A B C D coast fr code := ⟨h.1.grown hg hne, cellG h.2 hg hne⟩
set_option maxHeartbeats 2000000 in
set_option maxRecDepth 100000 in
theorem eqTrackerOut_same (L : List St) (n : Nat) (lim mode A B C D coast fr code : Int) (a a' : Option Addr) (c c' : Nat) (w : World) (hn : n ≤ 1048576) (hS : Stars w a L n) (hS' : Stars w a' L n) :
    Calls Tryz.prog 11 #[.agg #[.slice a n c, .int .i64 lim, .int .i64 mode, .int .i64 A, .int .i64 B, .int .i64 C, .int .i64 D, .int .i64 coast, .int .i64 fr, .int .i64 code], .agg #[.slice a' n c', .int .i64 lim, .int .i64 mode, .int .i64 A, .int .i64 B, .int .i64 C, .int .i64 D, .int .i64 coast, .int .i64 fr, .int .i64 code]] w fun e w' => e = .returned (.bool true) ∧ Below w.heap.size w w' := by
  have B1 := yz (below2 w (.cells #[.slice a n c, .int .i64 lim, .int .i64 mode, .int .i64 A, .int .i64 B, .int .i64 C, .int .i64 D, .int .i64 coast, .int .i64 fr, .int .i64 code] 39) (.cells #[.slice a' n c', .int .i64 lim, .int .i64 mode, .int .i64 A, .int .i64 B, .int .i64 C, .int .i64 D, .int .i64 coast, .int .i64 fr, .int .i64 code] 39))
  have O1 : Hid (TkO ((w.alloc (.cells #[.slice a n c, .int .i64 lim, .int .i64 mode, .int .i64 A, .int .i64 B, .int .i64 C, .int .i64 D, .int .i64 coast, .int .i64 fr, .int .i64 code] 39)).alloc (.cells #[.slice a' n c', .int .i64 lim, .int .i64 mode, .int .i64 A, .int .i64 B, .int .i64 C, .int .i64 D, .int .i64 coast, .int .i64 fr, .int .i64 code] 39)) w.heap.size (.slice a n c) lim mode A B C D coast fr code) := yz ((tkO_new w _ _ _ _ _ _ _ _ _ _ _).kept (below1 _ _))
  have O2 : Hid (TkO ((w.alloc (.cells #[.slice a n c, .int .i64 lim, .int .i64 mode, .int .i64 A, .int .i64 B, .int .i64 C, .int .i64 D, .int .i64 coast, .int .i64 fr, .int .i64 code] 39)).alloc (.cells #[.slice a' n c', .int .i64 lim, .int .i64 mode, .int .i64 A, .int .i64 B, .int .i64 C, .int .i64 D, .int .i64 coast, .int .i64 fr, .int .i64 code] 39)) (w.heap.size + 1) (.slice a' n c') lim mode A B C D coast fr code) := yz (by simpa using tkO_new (w.alloc (.cells #[.slice a n c, .int .i64 lim, .int .i64 mode, .int .i64 A, .int .i64 B, .int .i64 C, .int .i64 D, .int .i64 coast, .int .i64 fr, .int .i64 code] 39)) (.slice a' n c') lim mode A B C D coast fr code 39)
  have cE := yz (eqTracker_same L n lim mode A B C D coast fr a a' c c' _ hn (hS.kept (yx B1)) (hS'.kept (yx B1)))
  clear hS hS'
  go_enter Tryz.func11, Tryz.ntmps11
  go_wp2_with fail
  refine (yx cE).mono ?_
  rintro e w1 ⟨rfl, hx⟩
  obtain ⟨⟨p0, p1, p2, p3, p4, p5, p6, p7, p8⟩, p9⟩ := (yx O1).kept hx
  obtain ⟨⟨q0, q1, q2, q3, q4, q5, q6, q7, q8⟩, q9⟩ := (yx O2).kept hx
  have B2 := yz (below_call (yx B1) hx)
  clear hx B1 O1 O2 cE
  go_wp2_with fail
  go_ret
  exact ⟨rfl, yx B2⟩
set_option maxHeartbeats 1000000 in
set_option maxRecDepth 100000 in
theorem markTracker_any (n : Nat) (lim mode A B C D coast fr : Int) (a : Option Addr) (c : Nat) (row : Option Nat) (w : World) (hn : n ≤ 1048576) (hO : OwnR w a n row) :
    Calls Tryz.prog 14 #[.agg #[.slice a n c, .int .i64 lim, .int .i64 mode, .int .i64 A, .int .i64 B, .int .i64 C, .int .i64 D, .int .i64 coast, .int .i64 fr], .int .i64 1] w fun e w' => e = .returned (.int .i64 (1 + (n : Int) * 4)) ∧ Mkd w' a n row ∧ w.grownBy w' row := by
  have B1 := below1 w (.cells #[.slice a n c, .int .i64 lim, .int .i64 mode, .int .i64 A, .int .i64 B, .int .i64 C, .int .i64 D, .int .i64 coast, .int .i64 fr] 37)
  have HB := yz B1
  rcases hO with ⟨rfl, rfl⟩ | ⟨g, f, rfl, rfl, hR⟩
  · clear B1
    go_enter Tryz.func14, Tryz.ntmps14
    go_wp2_with fail
    refine (markStarS_none a c _).mono ?_
    rintro e w1 ⟨rfl, hw⟩
    rw [hw]
    clear hw w1
    go_wp2_with fail
    go_ret
    exact ⟨rfl, .inl ⟨rfl, rfl⟩, ⟨(yx HB).os, (yx HB).tape, (yx HB).output, (yx HB).size, fun k hk _ => (yx HB).block k hk⟩⟩
  · have HR := yz (hR.kept B1)
    clear B1 hR
    have cM := yz (fun W h => markStarS_any n c g f W hn h)
    go_enter Tryz.func14, Tryz.ntmps14
    go_wp2_with fail
    refine (yx cM _ (yx HR)).mono ?_
    rintro e w1 ⟨rfl, hr, hg⟩
    have HG := yz (grownTr (grownB (yx HB)) hg)
    have HR2 := yz hr
    clear hr hg cM
    go_wp2_with fail
    go_ret
    exact ⟨rfl, .inr ⟨g, rfl, rfl, yx HR2⟩, yx HG⟩
set_option maxHeartbeats 1000000 in
set_option maxRecDepth 100000 in
theorem markTrackerOut_any (n : Nat) (lim mode A B C D coast fr code : Int) (a : Option Addr) (c : Nat) (row : Option Nat) (w : World) (hn : n ≤ 1048576) (hO : OwnR w a n row) :
    Calls Tryz.prog 16 #[.agg #[.slice a n c, .int .i64 lim, .int .i64 mode, .int .i64 A, .int .i64 B, .int .i64 C, .int .i64 D, .int .i64 coast, .int .i64 fr, .int .i64 code], .int .i64 1] w fun e w' => e = .returned (.int .i64 (1 + (n : Int) * 4)) ∧ Mkd w' a n row ∧ w.grownBy w' row := by
  have B1 := below1 w (.cells #[.slice a n c, .int .i64 lim, .int .i64 mode, .int .i64 A, .int .i64 B, .int .i64 C, .int .i64 D, .int .i64 coast, .int .i64 fr, .int .i64 code] 39)
  have cM := yz (markTracker_any n lim mode A B C D coast fr a c row _ hn (hO.kept B1))
  have HB := yz B1
  clear B1 hO
  go_enter Tryz.func16, Tryz.ntmps16
  go_wp2_with fail
  refine (yx cM).mono ?_
  rintro e w1 ⟨rfl, hr, hg⟩
  have HG := yz (grownTr (⟨(yx HB).os, (yx HB).tape, (yx HB).output, (yx HB).size, fun k hk _ => (yx HB).block k hk⟩ : w.grownBy _ row) hg)
  have HR2 := yz hr
  clear hr hg cM
  go_wp2_with fail
  go_ret
  exact ⟨rfl, yx HR2, yx HG⟩
set_option maxHeartbeats 1000000 in
set_option maxRecDepth 100000 in
theorem heldTracker_any (n : Nat) (lim mode A B C D coast fr : Int) (a : Option Addr) (c : Nat) (row : Option Nat) (w : World) (hn : n ≤ 1048576) (hO : Mkd w a n row) :
    Calls Tryz.prog 43 #[.agg #[.slice a n c, .int .i64 lim, .int .i64 mode, .int .i64 A, .int .i64 B, .int .i64 C, .int .i64 D, .int .i64 coast, .int .i64 fr], .int .i64 1] w fun e w' => e = .returned (.int .i64 (1 + (n : Int) * 4)) ∧ Below w.heap.size w w' := by
  have B1 := below1 w (.cells #[.slice a n c, .int .i64 lim, .int .i64 mode, .int .i64 A, .int .i64 B, .int .i64 C, .int .i64 D, .int .i64 coast, .int .i64 fr] 37)
  have HB := yz B1
  rcases hO with ⟨rfl, rfl⟩ | ⟨g, rfl, rfl, hR⟩
  · clear B1
    go_enter Tryz.func43, Tryz.ntmps43
    go_wp2_with fail
    refine (heldStarS_none a c _).mono ?_
    rintro e w1 ⟨rfl, hw⟩
    rw [hw]
    clear hw w1
    go_wp2_with fail
    go_ret
    exact ⟨rfl, yx HB⟩
  · have HR := yz (hR.kept B1)
    clear B1 hR
    have cM := yz (fun W h => heldStarS_any n c g W hn h)
    have hk : decide (1 + (n : Int) * 4 < 0) = false := by simp; omega
    go_enter Tryz.func43, Tryz.ntmps43
    go_wp2_with fail
    refine (yx cM _ (yx HR)).mono ?_
    rintro e w1 ⟨rfl, hw⟩
    rw [hw]
    clear hw w1
    go_wp2_with fail
    go_ret
    exact ⟨rfl, yx HB⟩
set_option maxHeartbeats 1000000 in
set_option maxRecDepth 100000 in
theorem heldTrackerOut_any (n : Nat) (lim mode A B C D coast fr code : Int) (a : Option Addr) (c : Nat) (row : Option Nat) (w : World) (hn : n ≤ 1048576) (hO : Mkd w a n row) :
    Calls Tryz.prog 17 #[.agg #[.slice a n c, .int .i64 lim, .int .i64 mode, .int .i64 A, .int .i64 B, .int .i64 C, .int .i64 D, .int .i64 coast, .int .i64 fr, .int .i64 code], .int .i64 1] w fun e w' => e = .returned (.int .i64 (1 + (n : Int) * 4)) ∧ Below w.heap.size w w' := by
  have B1 := below1 w (.cells #[.slice a n c, .int .i64 lim, .int .i64 mode, .int .i64 A, .int .i64 B, .int .i64 C, .int .i64 D, .int .i64 coast, .int .i64 fr, .int .i64 code] 39)
  have cM := yz (heldTracker_any n lim mode A B C D coast fr a c row _ hn (hO.kept B1))
  have HB := yz B1
  have hk : decide (1 + (n : Int) * 4 < 0) = false := by simp; omega
  clear B1 hO
  go_enter Tryz.func17, Tryz.ntmps17
  go_wp2_with fail
  refine (yx cM).mono ?_
  rintro e w1 ⟨rfl, hx⟩
  have B2 := yz (below_call (yx HB) hx)
  clear hx
  go_wp2_with fail
  go_ret
  exact ⟨rfl, yx B2⟩
theorem ownS_none (w : World) (B : Nat) (h : B ≤ w.heap.size) : (w.alloc (.cells #[] 113)).ownsRow B 113 4 (.slice (some ⟨w.heap.size, 0, none⟩) 0 0) 0 [] :=
  ⟨rfl, .inr ⟨_, 0, #[], rfl, h, Array.getElem?_push_size, Nat.le_refl _, Nat.zero_le _, rfl, rfl⟩⟩
theorem flatSt_one {L : List St} {u : Value} (h : u ∈ flatSt L) : u.oneCell' = true := by
  unfold flatSt at h
  rw [List.mem_flatMap] at h
  obtain ⟨s, _, hs⟩ := h
  simp [stC] at hs
  rcases hs with rfl | rfl | rfl | rfl <;> rfl
theorem stars_cells {w : World} {b o : Nat} {L : List St} (h : Stars w (some ⟨b, o, none⟩) L L.length) (j : Nat) (u : Value) (hj : (flatSt L)[j]? = some u) : w.cell? ((⟨b, o, none⟩ : Addr).add j) = some u := by
  have hlt : j < L.length * 4 := by
    have := (List.getElem?_eq_some_iff.1 hj).1
    rw [flatSt_len] at this
    exact this
  have hA : (⟨b, o, none⟩ : Addr).add j = ⟨b, o + j, none⟩ := by unfold Addr.add; split <;> simp_all
  rw [hA]
  rcases h with h | ⟨b', o', e, _, hc⟩
  · omega
  · simp only [Option.some.injEq, Addr.mk.injEq, and_true] at e
    obtain ⟨rfl, rfl⟩ := e
    obtain ⟨e0, e1, e2, e3⟩ := flatSt_at L (j / 4) (by omega)
    obtain ⟨c0, c1, c2, c3⟩ := hc (j / 4) (by omega)
    have h4 : j = j / 4 * 4 ∨ j = j / 4 * 4 + 1 ∨ j = j / 4 * 4 + 2 ∨ j = j / 4 * 4 + 3 := by omega
    rcases h4 with h4 | h4 | h4 | h4
    · rw [h4, e0] at hj; rw [h4, c0]; exact hj
    · rw [h4, e1] at hj; rw [h4, ← Nat.add_assoc, c1]; exact hj
    · rw [h4, e2] at hj; rw [h4, ← Nat.add_assoc, c2]; exact hj
    · rw [h4, e3] at hj; rw [h4, ← Nat.add_assoc, c3]; exact hj
def Copied (w : World) (B : Nat) (L : List St) (a : Option Addr) (cap : Nat) : Prop := w.ownsRow B 113 4 (.slice a L.length cap) L.length (flatSt L)
theorem Copied.stars {w : World} {B : Nat} {L : List St} {a : Option Addr} {cap : Nat} (h : Copied w B L a cap) : Stars w a L L.length := by
  obtain ⟨a', c', e, _, _, hs⟩ := own_stars h
  injection e with e1 e2 e3
  subst e1
  exact hs
theorem Copied.row {w : World} {B : Nat} {L : List St} {a : Option Addr} {cap : Nat} (h : Copied w B L a cap) : ∃ row, OwnR w a L.length row ∧ ∀ g, row = some g → B ≤ g := own_row h rfl
theorem Copied.capMax {w : World} {B : Nat} {L : List St} {a : Option Addr} {cap : Nat} (h : Copied w B L a cap) : L.length ≤ cap ∧ cap ≤ maxLen := by
  obtain ⟨a', c', e, h1, h2, _⟩ := own_stars h
  injection e with e1 e2 e3
  subst e3
  exact ⟨h1, h2⟩
theorem Copied.kept {w w' : World} {B : Nat} {L : List St} {a : Option Addr} {cap : Nat} (h : Copied w B L a cap) (hB : Below w.heap.size w w') : Copied w' B L a cap := by
  obtain ⟨h1, h2⟩ := h
  refine ⟨h1, ?_⟩
  rcases h2 with h2 | ⟨g, c', cur, e, hg, hh, r⟩
  · exact .inl h2
  · exact .inr ⟨g, c', cur, e, hg, by rw [hB.block g (Array.getElem?_eq_some_iff.1 hh).1]; exact hh, r⟩
theorem Copied.low {w : World} {B B' : Nat} {L : List St} {a : Option Addr} {cap : Nat} (h : Copied w B L a cap) (hb : B' ≤ B) : Copied w B' L a cap := by
  obtain ⟨h1, h2⟩ := h
  refine ⟨h1, ?_⟩
  rcases h2 with h2 | ⟨g, c', cur, e, hg, r⟩
  · exact .inl h2
  · exact .inr ⟨g, c', cur, e, by omega, r⟩
theorem copied_form {w : World} {B : Nat} {L : List St} {v : Value} (h : w.ownsRow B 113 4 v L.length (flatSt L)) : ∃ a cap, v = .slice a L.length cap ∧ Copied w B L a cap := by
  obtain ⟨a, cap, e, _⟩ := own_stars h
  exact ⟨a, cap, e, by unfold Copied; rw [← e]; exact h⟩
theorem FreeK.grown {w w' : World} {b : Nat} {row : Option Nat} (h : FreeK w b) (hb : b < w.heap.size) (hg : w.grownBy w' row) (hne : some b ≠ row) : FreeK w' b := fun i => by
  have h1 := h i
  unfold World.frozen? at h1 ⊢
  rw [hg.block b hb hne]
  exact h1
theorem Copied.far {w : World} {B : Nat} {L : List St} {a : Option Addr} {cap : Nat} (h : Copied w B L a cap) {b : Nat} (hne : b < B) (o : Nat) (x : Value) : Copied (w.setCell ⟨b, o, none⟩ x) B L a cap := by
  obtain ⟨h1, h2⟩ := h
  refine ⟨h1, ?_⟩
  rcases h2 with h2 | ⟨g, c', cur, e, hg, hh, r⟩
  · exact .inl h2
  · exact .inr ⟨g, c', cur, e, hg, by rw [Below.heap_setCell w ⟨b, o, none⟩ x g (by show g ≠ b; omega)]; exact hh, r⟩
end Go.Proofs.YteoonaanoenjiaaGreatDoor
namespace Go.Proofs.YteoonaanoenjiaaGreatDoor
open Go.RowKit Go.Sort
set_option linter.unusedVariables false
set_option linter.unusedSimpArgs false
theorem run_append_nilO {P : Program} (w : World) (t ty e : TypeId) (i : TypeInfo) (ht : P.underlying t = some (.slice e)) (hi : P.info? e = some i) (a : Option Addr) (n cap c : Nat) (hc : n ≤ cap) :
    (Builtin.append_ #[t, t] ty #[.slice a n cap, .slice none 0 c]).run P w = .ok (.slice a n cap) w := by
  cases a <;> simp [Builtin.append_, run_underlying ht, sizeOf, typeInfo, hi, Builtin.lenOf, Builtin.firstCells, loadCells, storeCells, hc]
theorem own_at {w : World} {B n m : Nat} {t : TypeId} {v : Value} {xs : List Value} (h : w.ownsRow B t m v n xs) : ∃ a cap, v = .slice a n cap ∧ n ≤ cap := by
  rcases h.2 with ⟨h1, h0⟩ | ⟨g, c', cur, e, _, _, h3, _⟩
  · exact ⟨none, 0, by rw [h1, h0], by omega⟩
  · exact ⟨_, _, e, h3⟩
theorem wp_append_ownO {P : Program} (w : World) {o : Oper} {a : Act} {K : Act → World → Prop} {Q : Exit → Act → World → Prop} (s x : Operand) (t : TypeId)
    (ho : o.op = .call { callee := .builtin .append, args := #[s, x], argTypes := #[t, t] })
    (base : Nat) (e : TypeId) (i : TypeInfo) (z : Value) (size bytes : Nat) (ht : P.underlying t = some (.slice e)) (hi : P.info? e = some i) (hz : i.zero = some z)
    (hsize : i.size = size) (hby : i.bytes = bytes) (hzs : z.cells.size = size) (hsz : 0 < size)
    (v : Value) (n : Nat) (xs : List Value) (hs : a.eval s = v) (hown : w.ownsRow base e size v n xs)
    (ao : Option Addr) (m c : Nat) (news : List Value) (hx : a.eval x = .slice ao m c) (hl : news.length = m * size) (h0 : ao = none → m = 0) (hnews : ∀ ad, ao = some ad → ∀ j u, news[j]? = some u → w.cell? (ad.add j) = some u) (h1 : ∀ u ∈ news, u.oneCell' = true)
    (h63 : n + m ≤ maxLen) (hbytes : (n + m) * bytes ≤ 140737488355328) (hbase : base ≤ w.heap.size)
    (h : ∀ v' w', w'.ownsRow base e size v' (n + m) (xs ++ news) → w.grownBy w' v.ownBlock → K (a.put o.dst v') w') : o.wp P a w K Q := by
  cases ao with
  | some ad => exact wp_append_own w s x t ho base e i z size bytes ht hi hz hsize hby hzs hsz v n xs hs hown ad m c news hx hl (hnews ad rfl) h1 h63 hbytes hbase fun v' w' h2 h3 _ => h v' w' h2 h3
  | none =>
    obtain rfl := h0 rfl
    obtain rfl : news = [] := List.eq_nil_of_length_eq_zero (by rw [hl]; omega)
    obtain ⟨a', cap, rfl, hc⟩ := own_at hown
    have hr := run_append_nilO (P := P) w t o.type e i ht hi a' n cap c hc
    unfold Oper.wp execOp
    simp only [ho, resolve, invoke, builtin, Sem.run_bind, Sem.run_pure, Result.andThen_ok, List.map_toArray, List.map_cons, List.map_nil, hs, hx, hr]
    exact h _ _ (by rw [List.append_nil]; exact hown) ⟨rfl, rfl, rfl, Nat.le_refl _, fun _ _ _ => rfl⟩
theorem wpList_append_ownO {P : Program} {ops : Array Oper} {rest : List Oper} (w : World) {o : Oper} {a : Act} {Q : Exit → Act → World → Prop} (hgd : o.guard = none) (s x : Operand) (t : TypeId)
    (ho : o.op = .call { callee := .builtin .append, args := #[s, x], argTypes := #[t, t] })
    (base : Nat) (e : TypeId) (i : TypeInfo) (z : Value) (size bytes : Nat) (ht : P.underlying t = some (.slice e)) (hi : P.info? e = some i) (hz : i.zero = some z)
    (hsize : i.size = size) (hby : i.bytes = bytes) (hzs : z.cells.size = size) (hsz : 0 < size)
    (v : Value) (n : Nat) (xs : List Value) (hs : a.eval s = v) (hown : w.ownsRow base e size v n xs)
    (ao : Option Addr) (m c : Nat) (news : List Value) (hx : a.eval x = .slice ao m c) (hl : news.length = m * size) (h0 : ao = none → m = 0) (hnews : ∀ ad, ao = some ad → ∀ j u, news[j]? = some u → w.cell? (ad.add j) = some u) (h1 : ∀ u ∈ news, u.oneCell' = true)
    (h63 : n + m ≤ maxLen) (hbytes : (n + m) * bytes ≤ 140737488355328) (hbase : base ≤ w.heap.size)
    (h : ∀ v' w', w'.ownsRow base e size v' (n + m) (xs ++ news) → w.grownBy w' v.ownBlock → wpList P ops Q rest (a.put o.dst v') w') : wpList P ops Q (o :: rest) a w :=
  wpList_plain hgd fun _ hK => wp_append_ownO w s x t ho base e i z size bytes ht hi hz hsize hby hzs hsz v n xs hs hown ao m c news hx hl h0 hnews h1 h63 hbytes hbase fun v' w' h2 h3 => hK _ _ (h v' w' h2 h3)
theorem stars_cellsO {w : World} {ao : Option Addr} {L : List St} (h : Stars w ao L L.length) (ad : Addr) (he : ao = some ad) (j : Nat) (u : Value) (hj : (flatSt L)[j]? = some u) : w.cell? (ad.add j) = some u := by
  subst he
  rcases h with h0 | ⟨b, o, e, hb, hc⟩
  · have := (List.getElem?_eq_some_iff.1 hj).1
    rw [flatSt_len] at this
    omega
  · cases e
    exact stars_cells (.inr ⟨b, o, rfl, hb, hc⟩) j u hj
theorem stars_none {w : World} {ao : Option Addr} {L : List St} (h : Stars w ao L L.length) (he : ao = none) : L.length = 0 := by
  subst he
  rcases h with h0 | ⟨b, o, e, hb, hc⟩
  · exact h0
  · cases e
end Go.Proofs.YteoonaanoenjiaaGreatDoor
namespace Go.Proofs.YteoonaanoenjiaaGreatDoor
open Go.RowKit Go.Sort
set_option linter.unusedVariables false
theorem res_copy (T : Array Value) (X : World) (b : Nat) (v : Value) (lim mode A B C D coast fr : Int) (hT : T.getD 2 undef = .pointer (some ⟨b, 0, none⟩)) (h : TkAt X b v lim mode A B C D coast fr) : (results Tryz.f44 T).run Tryz.prog X = .ok (.agg #[v, .int .i64 lim, .int .i64 mode, .int .i64 A, .int .i64 B, .int .i64 C, .int .i64 D, .int .i64 coast, .int .i64 fr]) X := by
  obtain ⟨h0, h1, h2, h3, h4, h5, h6, h7, h8⟩ := h
  simp only [Array.getD_eq_getD_getElem?] at hT
  simp [results, Tryz.results44, go_sem, hT, h0, h1, h2, h3, h4, h5, h6, h7, h8]
theorem res_workOf (T : Array Value) (X : World) (b : Nat) (v : Value) (lim mode A B C D coast fr : Int) (hT : T.getD 2 undef = .pointer (some ⟨b, 0, none⟩)) (h : TkAt X b v lim mode A B C D coast fr) : (results Tryz.f49 T).run Tryz.prog X = .ok (.agg #[v, .int .i64 lim, .int .i64 mode, .int .i64 A, .int .i64 B, .int .i64 C, .int .i64 D, .int .i64 coast, .int .i64 fr]) X := by
  obtain ⟨h0, h1, h2, h3, h4, h5, h6, h7, h8⟩ := h
  simp only [Array.getD_eq_getD_getElem?] at hT
  simp [results, Tryz.results49, go_sem, hT, h0, h1, h2, h3, h4, h5, h6, h7, h8]
theorem tkO_set10 {w : World} {b : Nat} {u : Value} {lim0 mode0 A0 B0 C0 D0 coast0 fr0 code0 : Int} (h : TkO w b u lim0 mode0 A0 B0 C0 D0 coast0 fr0 code0) (v : Value) (lim mode A B C D coast fr code : Int) : TkO ((((((((((w.setCell ⟨b, 0, none⟩ v).setCell ⟨b, 1, none⟩ (.int .i64 lim)).setCell ⟨b, 2, none⟩ (.int .i64 mode)).setCell ⟨b, 3, none⟩ (.int .i64 A)).setCell ⟨b, 4, none⟩ (.int .i64 B)).setCell ⟨b, 5, none⟩ (.int .i64 C)).setCell ⟨b, 6, none⟩ (.int .i64 D)).setCell ⟨b, 7, none⟩ (.int .i64 coast)).setCell ⟨b, 8, none⟩ (.int .i64 fr)).setCell ⟨b, 9, none⟩ (.int .i64 code)) b v lim mode A B C D coast fr code := by
  obtain ⟨⟨h0, h1, h2, h3, h4, h5, h6, h7, h8⟩, h9⟩ := h
  refine ⟨⟨?_, ?_, ?_, ?_, ?_, ?_, ?_, ?_, ?_⟩, ?_⟩ <;> simp [go_sem, h0, h1, h2, h3, h4, h5, h6, h7, h8, h9]
set_option maxHeartbeats 2000000 in
set_option maxRecDepth 100000 in
theorem l07Copy_any (L : List St) (lim mode A B C D coast fr : Int) (ad : Option Addr) (c : Nat) (w : World) (hn : L.length ≤ 1048576) (hS : Stars w ad L L.length) :
    Calls Tryz.prog 44 #[.agg #[.slice ad L.length c, .int .i64 lim, .int .i64 mode, .int .i64 A, .int .i64 B, .int .i64 C, .int .i64 D, .int .i64 coast, .int .i64 fr]] w fun e w' => ∃ a cap, e = .returned (.agg #[.slice a L.length cap, .int .i64 lim, .int .i64 mode, .int .i64 A, .int .i64 B, .int .i64 C, .int .i64 D, .int .i64 coast, .int .i64 fr]) ∧ Copied w' (w.heap.size + 2) L a cap ∧ Below w.heap.size w w' := by
  have B0 := below3 w (.cells #[.slice ad L.length c, .int .i64 lim, .int .i64 mode, .int .i64 A, .int .i64 B, .int .i64 C, .int .i64 D, .int .i64 coast, .int .i64 fr] 37) (.cells #[.slice none 0 0, .int .i64 0, .int .i64 0, .int .i64 0, .int .i64 0, .int .i64 0, .int .i64 0, .int .i64 0, .int .i64 0] 37) (.cells #[] 113)
  have S1 := yz (hS.kept B0)
  have S0 := ((tkAt_new w (.slice ad L.length c) lim mode A B C D coast fr 37).kept (below1 _ (.cells #[.slice none 0 0, .int .i64 0, .int .i64 0, .int .i64 0, .int .i64 0, .int .i64 0, .int .i64 0, .int .i64 0, .int .i64 0] 37))).kept (below1 _ (.cells #[] 113))
  have R0 := (by simpa using tkAt_new (w.alloc (.cells #[.slice ad L.length c, .int .i64 lim, .int .i64 mode, .int .i64 A, .int .i64 B, .int .i64 C, .int .i64 D, .int .i64 coast, .int .i64 fr] 37)) (.slice none 0 0) 0 0 0 0 0 0 0 0 37 : TkAt ((w.alloc (.cells #[.slice ad L.length c, .int .i64 lim, .int .i64 mode, .int .i64 A, .int .i64 B, .int .i64 C, .int .i64 D, .int .i64 coast, .int .i64 fr] 37)).alloc (.cells #[.slice none 0 0, .int .i64 0, .int .i64 0, .int .i64 0, .int .i64 0, .int .i64 0, .int .i64 0, .int .i64 0, .int .i64 0] 37)) (w.heap.size + 1) (.slice none 0 0) 0 0 0 0 0 0 0 0).kept (below1 _ (.cells #[] 113))
  have F0 := ((freeK_new w #[.slice ad L.length c, .int .i64 lim, .int .i64 mode, .int .i64 A, .int .i64 B, .int .i64 C, .int .i64 D, .int .i64 coast, .int .i64 fr] 37).kept (by simp) (below1 _ (.cells #[.slice none 0 0, .int .i64 0, .int .i64 0, .int .i64 0, .int .i64 0, .int .i64 0, .int .i64 0, .int .i64 0, .int .i64 0] 37))).kept (by simp; omega) (below1 _ (.cells #[] 113))
  have G0 := (by simpa using freeK_new (w.alloc (.cells #[.slice ad L.length c, .int .i64 lim, .int .i64 mode, .int .i64 A, .int .i64 B, .int .i64 C, .int .i64 D, .int .i64 coast, .int .i64 fr] 37)) #[.slice none 0 0, .int .i64 0, .int .i64 0, .int .i64 0, .int .i64 0, .int .i64 0, .int .i64 0, .int .i64 0, .int .i64 0] 37 : FreeK ((w.alloc (.cells #[.slice ad L.length c, .int .i64 lim, .int .i64 mode, .int .i64 A, .int .i64 B, .int .i64 C, .int .i64 D, .int .i64 coast, .int .i64 fr] 37)).alloc (.cells #[.slice none 0 0, .int .i64 0, .int .i64 0, .int .i64 0, .int .i64 0, .int .i64 0, .int .i64 0, .int .i64 0, .int .i64 0] 37)) (w.heap.size + 1)).kept (by simp) (below1 _ (.cells #[] 113))
  have N0 := (by simpa using ownS_none ((w.alloc (.cells #[.slice ad L.length c, .int .i64 lim, .int .i64 mode, .int .i64 A, .int .i64 B, .int .i64 C, .int .i64 D, .int .i64 coast, .int .i64 fr] 37)).alloc (.cells #[.slice none 0 0, .int .i64 0, .int .i64 0, .int .i64 0, .int .i64 0, .int .i64 0, .int .i64 0, .int .i64 0, .int .i64 0] 37)) (w.heap.size + 2) (by simp) : (((w.alloc (.cells #[.slice ad L.length c, .int .i64 lim, .int .i64 mode, .int .i64 A, .int .i64 B, .int .i64 C, .int .i64 D, .int .i64 coast, .int .i64 fr] 37)).alloc (.cells #[.slice none 0 0, .int .i64 0, .int .i64 0, .int .i64 0, .int .i64 0, .int .i64 0, .int .i64 0, .int .i64 0, .int .i64 0] 37)).alloc (.cells #[] 113)).ownsRow (w.heap.size + 2) 113 4 (.slice (some ⟨w.heap.size + 1 + 1, 0, none⟩) 0 0) 0 [])
  have HB := yz B0
  have HS := yz S0
  have HR := yz R0
  have HF := yz F0
  have HG := yz G0
  have HN := yz N0
  clear B0 S0 R0 F0 G0 N0 hS
  obtain ⟨i0, hinf, hz0, hz1, hz2⟩ := info_parts info_star
  go_enter Tryz.func44, Tryz.ntmps44
  go_wp2_with (at_builtin; refine wpList_append_ownO _ rfl _ _ 34 rfl (w.heap.size + 2) 113 i0 (.agg #[.int .i64 0, .int .i64 0, .int .i64 0, .int .i64 0]) 4 32 Tryz.underlying34 hinf hz0 hz1 hz2 rfl (by decide) _ _ _ rfl (yx HN) ad L.length c (flatSt L) rfl (flatSt_len L) (stars_none (yx S1)) (stars_cellsO (yx S1)) (fun u hu => flatSt_one hu) ?d1 ?d2 ?d3 ?_)
  case d1 => have : 1048576 ≤ maxLen := by decide +kernel
             omega
  case d2 => omega
  case d3 => simp
  intro v' w1 ho hg
  obtain ⟨a, cap, rfl, hC⟩ := copied_form ho
  have B1 := yz (belowR (yx HB) hg (yx HB).size (fun g e => by simp [Value.ownBlock] at e; omega))
  have S2 := (yx HS).grown hg (by simp [Value.ownBlock]; omega)
  have R2 := yz ((yx HR).grown hg (by simp [Value.ownBlock]))
  have F2 := yz ((yx HF).grown (yx HS).lt hg (by simp [Value.ownBlock]; omega))
  have G2 := yz ((yx HG).grown (yx HR).lt hg (by simp [Value.ownBlock]))
  have C1 := yz hC
  clear ho hg hC HB HS HR HF HG HN S1
  obtain ⟨s0, s1, s2, s3, s4, s5, s6, s7, s8⟩ := S2
  have S2' : Hid (TkAt w1 w.heap.size (.slice ad L.length c) lim mode A B C D coast fr) := yz ⟨s0, s1, s2, s3, s4, s5, s6, s7, s8⟩
  obtain ⟨r0, r1, r2, r3, r4, r5, r6, r7, r8⟩ := yx R2
  have f0 := yx F2 0
  have g0 := yx G2 0
  have g1 := yx G2 1
  have g2 := yx G2 2
  have g3 := yx G2 3
  have g4 := yx G2 4
  have g5 := yx G2 5
  have g6 := yx G2 6
  have g7 := yx G2 7
  have g8 := yx G2 8
  go_wp2_with fail
  clear s0 s1 s2 s3 s4 s5 s6 s7 s8 r0 r1 r2 r3 r4 r5 r6 r7 r8 f0 g0 g1 g2 g3 g4 g5 g6 g7 g8
  refine bodyPost_ret (v := .agg #[.slice a L.length cap, .int .i64 lim, .int .i64 mode, .int .i64 A, .int .i64 B, .int .i64 C, .int .i64 D, .int .i64 coast, .int .i64 fr]) ?_ rfl ⟨a, cap, rfl, ?_, ?_⟩
  · refine res_copy _ _ (w.heap.size + 1) _ lim mode A B C D coast fr rfl ?_
    refine tkAt_set9 (lim0 := 0) (mode0 := 0) (A0 := 0) (B0 := 0) (C0 := 0) (D0 := 0) (coast0 := 0) (fr0 := 0) (u := .slice none 0 0) ?_ _ lim mode A B C D coast fr
    exact TkAt.far (yx R2) (show w.heap.size + 1 ≠ w.heap.size by omega) _ _
  · iterate 9 (refine Copied.far ?_ (show w.heap.size + 1 < w.heap.size + 2 by omega) _ _)
    exact Copied.far (yx C1) (show w.heap.size < w.heap.size + 2 by omega) _ _
  · iterate 9 (refine belowSet ?_ (show w.heap.size ≤ w.heap.size + 1 by omega) _ _)
    exact belowSet (yx B1) (Nat.le_refl _) _ _
set_option maxHeartbeats 2000000 in
set_option maxRecDepth 100000 in
theorem l07Lost_any (lim mode A B C D coast fr : Int) (a : Option Addr) (n c : Nat) (w : World) :
    Calls Tryz.prog 106 #[.agg #[.slice a n c, .int .i64 lim, .int .i64 mode, .int .i64 A, .int .i64 B, .int .i64 C, .int .i64 D, .int .i64 coast, .int .i64 fr]] w fun e w' => e = .returned (.agg #[.slice a n c, .int .i64 lim, .int .i64 0, .int .i64 0, .int .i64 0, .int .i64 0, .int .i64 0, .int .i64 0, .int .i64 fr]) ∧ Below w.heap.size w w' := by
  go_enter Tryz.func106, Tryz.ntmps106
  go_wp2
  exact bodyPost_ret (v := .agg #[.slice a n c, .int .i64 lim, .int .i64 0, .int .i64 0, .int .i64 0, .int .i64 0, .int .i64 0, .int .i64 0, .int .i64 fr]) (by simp [results, Tryz.results106, go_sem]) rfl ⟨rfl, below2 _ _ _⟩
set_option maxHeartbeats 2000000 in
set_option maxRecDepth 100000 in
theorem l07Ill_any (code : Int) (w : World) :
    Calls Tryz.prog 28 #[.int .i64 code] w fun e w' => e = .returned (.agg #[.slice none 0 0, .int .i64 0, .int .i64 0, .int .i64 0, .int .i64 0, .int .i64 0, .int .i64 0, .int .i64 0, .int .i64 0, .int .i64 code]) ∧ Below w.heap.size w w' := by
  go_enter Tryz.func28, Tryz.ntmps28
  go_wp2
  exact bodyPost_ret (v := .agg #[.slice none 0 0, .int .i64 0, .int .i64 0, .int .i64 0, .int .i64 0, .int .i64 0, .int .i64 0, .int .i64 0, .int .i64 0, .int .i64 code]) (by simp [results, Tryz.results28, go_sem]) rfl ⟨rfl, below1 _ _⟩
set_option maxHeartbeats 2000000 in
set_option maxRecDepth 100000 in
theorem wlost_any (lim mode A B C D coast fr : Int) (a : Option Addr) (n c : Nat) (w : World) :
    Calls Tryz.prog 112 #[.agg #[.slice a n c, .int .i64 lim, .int .i64 mode, .int .i64 A, .int .i64 B, .int .i64 C, .int .i64 D, .int .i64 coast, .int .i64 fr]] w fun e w' => e = .returned (.agg #[.slice a n c, .int .i64 lim, .int .i64 0, .int .i64 0, .int .i64 0, .int .i64 0, .int .i64 0, .int .i64 0, .int .i64 fr]) ∧ Below w.heap.size w w' := by
  go_enter Tryz.func112, Tryz.ntmps112
  go_wp2
  exact bodyPost_ret (v := .agg #[.slice a n c, .int .i64 lim, .int .i64 0, .int .i64 0, .int .i64 0, .int .i64 0, .int .i64 0, .int .i64 0, .int .i64 fr]) (by simp [results, Tryz.results112, go_sem]) rfl ⟨rfl, below2 _ _ _⟩
set_option maxHeartbeats 2000000 in
set_option maxRecDepth 100000 in
theorem told_any (lim mode A B C D coast fr : Int) (a : Option Addr) (n c : Nat) (w : World) :
    Calls Tryz.prog 50 #[.agg #[.slice a n c, .int .i64 lim, .int .i64 mode, .int .i64 A, .int .i64 B, .int .i64 C, .int .i64 D, .int .i64 coast, .int .i64 fr]] w fun e w' => e = .returned (.agg #[.slice a n c, .int .i64 lim, .int .i64 mode, .int .i64 A, .int .i64 B, .int .i64 C, .int .i64 D, .int .i64 coast, .int .i64 fr, .int .i64 0]) ∧ Below w.heap.size w w' := by
  go_enter Tryz.func50, Tryz.ntmps50
  go_wp2
  exact bodyPost_ret (v := .agg #[.slice a n c, .int .i64 lim, .int .i64 mode, .int .i64 A, .int .i64 B, .int .i64 C, .int .i64 D, .int .i64 coast, .int .i64 fr, .int .i64 0]) (by simp [results, Tryz.results50, go_sem]) rfl ⟨rfl, below2 _ _ _⟩
theorem l02Span_any (n lo hi : Int) (w : World) :
    Calls Tryz.prog 57 #[.int .i64 n, .int .i64 lo, .int .i64 hi] w fun e w' => e = .returned (.bool (spanB lo hi n)) ∧ w' = w := l02Is_any n lo hi w
set_option maxRecDepth 100000 in
theorem l02Time_any (n : Int) (w : World) :
    Calls Tryz.prog 58 #[.int .i64 n] w fun e w' => e = .returned (.bool (spanB 0 1000000 n)) ∧ w' = w := by
  go_enter Tryz.func58, Tryz.ntmps58
  go_wp2_with fail
  refine (l02Span_any n 0 1000000 _).mono ?_
  rintro e w1 ⟨rfl, hw⟩
  rw [hw]
  go_wp2_with fail
  go_ret
  exact ⟨rfl, rfl⟩
set_option maxHeartbeats 2000000 in
set_option maxRecDepth 100000 in
theorem specTrack_any (L : List St) (lim mode A B C D coast fr : Int) (a : Option Addr) (c : Nat) (w : World) (hn : L.length ≤ 1048576) (hS : Stars w a L L.length) :
    Calls Tryz.prog 26 #[.agg #[.slice a L.length c, .int .i64 lim, .int .i64 mode, .int .i64 A, .int .i64 B, .int .i64 C, .int .i64 D, .int .i64 coast, .int .i64 fr]] w fun e w' => e = .returned (.bool (trackB ⟨L, lim, mode, A, B, C, D, coast, fr⟩)) ∧ Below w.heap.size w w' := by
  have B0 := below1 w (.cells #[.slice a L.length c, .int .i64 lim, .int .i64 mode, .int .i64 A, .int .i64 B, .int .i64 C, .int .i64 D, .int .i64 coast, .int .i64 fr] 37)
  have T0 := tkAt_new w (.slice a L.length c) lim mode A B C D coast fr 37
  have cS := yz (specSky_any L a c _ hn (hS.kept B0))
  have HB0 := yz B0
  have HT0 := yz T0
  clear B0 T0 hS hn
  go_enter Tryz.func26, Tryz.ntmps26
  go_wp2_with fail
  refine (yx cS).mono ?_
  rintro e w1 ⟨rfl, hx⟩
  have T1 := yz ((yx HT0).kept hx)
  have B1 := yz (below_call (yx HB0) hx)
  clear hx cS HT0 HB0
  obtain ⟨c0, c1, c2, c3, c4, c5, c6, c7, c8⟩ := yx T1
  have hlt := (yx T1).lt
  cases hk : skyB L
  · have HO := yz (track_no1 (t := ⟨L, lim, mode, A, B, C, D, coast, fr⟩) hk)
    go_wp2_with fail
    go_ret
    exact ⟨by rw [yx HO]; rfl, yx B1⟩
  go_wp2_with fail
  refine (l02Span_any lim 1 5 _).mono ?_
  rintro e w2 ⟨rfl, hw⟩
  rw [hw]
  clear hw w2
  cases hl : spanB 1 5 lim
  · have HO := yz (track_no2 (t := ⟨L, lim, mode, A, B, C, D, coast, fr⟩) hl)
    go_wp2_with fail
    go_ret
    exact ⟨by rw [yx HO]; rfl, yx B1⟩
  go_wp2_with fail
  refine (l02Time_any fr _).mono ?_
  rintro e w2 ⟨rfl, hw⟩
  rw [hw]
  clear hw w2
  cases hf : spanB 0 1000000 fr
  · have HO := yz (track_no3 (t := ⟨L, lim, mode, A, B, C, D, coast, fr⟩) hf)
    go_wp2_with fail
    go_ret
    exact ⟨by rw [yx HO]; rfl, yx B1⟩
  have HH := yz (track_head (t := ⟨L, lim, mode, A, B, C, D, coast, fr⟩) hk hl hf)
  clear hk hl hf
  have Z := ((yx B1).alloc (yx B1).size (.cells #[.int .i64 0, .int .i64 0, .int .i64 0, .int .i64 0] 35))
  have T2 := yz ((yx T1).kept (below1 w1 (.cells #[.int .i64 0, .int .i64 0, .int .i64 0, .int .i64 0] 35)))
  by_cases m0 : mode = 0
  · have HO : Hid (trackB ⟨L, lim, mode, A, B, C, D, coast, fr⟩ = (eqT A B C D 0 0 0 0 && decide (coast = 0))) := yz (by rw [yx HH, mode_0 m0])
    have hq := fun W => eql_turn A B C D 0 0 0 0 W
    cases hz : eqT A B C D 0 0 0 0
    · rw [hz] at HO hq
      go_wp2_with fail
      go_ret
      exact ⟨by rw [yx HO]; rfl, Z⟩
    · rw [hz] at HO hq
      go_wp2_with fail
      go_ret
      exact ⟨by rw [yx HO]; rfl, Z⟩
  by_cases m1 : mode = 1
  · have HO : Hid (trackB ⟨L, lim, mode, A, B, C, D, coast, fr⟩ = (rightT A B C D && decide (coast = 0))) := yz (by rw [yx HH, mode_1 m1])
    subst m1
    go_wp2_with fail
    refine (specTRight_any A B C D _).mono ?_
    rintro e w2 ⟨rfl, hx⟩
    have B2 := yz (below_call Z hx)
    obtain ⟨d0, d1, d2, d3, d4, d5, d6, d7, d8⟩ := (yx T2).kept hx
    clear hx c0 c1 c2 c3 c4 c5 c6 c7 c8 Z
    cases hz : rightT A B C D
    · rw [hz] at HO
      go_wp2_with fail
      go_ret
      exact ⟨by rw [yx HO]; rfl, yx B2⟩
    · rw [hz] at HO
      go_wp2_with fail
      go_ret
      exact ⟨by rw [yx HO]; rfl, yx B2⟩
  by_cases m2 : mode = 2
  · have HO : Hid (trackB ⟨L, lim, mode, A, B, C, D, coast, fr⟩ = (rightT A B C D && spanB 1 lim coast)) := yz (by rw [yx HH, mode_2 m2])
    subst m2
    go_wp2_with fail
    refine (specTRight_any A B C D _).mono ?_
    rintro e w2 ⟨rfl, hx⟩
    have B2 := yz (below_call Z hx)
    obtain ⟨d0, d1, d2, d3, d4, d5, d6, d7, d8⟩ := (yx T2).kept hx
    clear hx c0 c1 c2 c3 c4 c5 c6 c7 c8 Z
    cases hz : rightT A B C D
    · rw [hz] at HO
      go_wp2_with fail
      go_ret
      exact ⟨by rw [yx HO]; rfl, yx B2⟩
    · rw [hz] at HO
      go_wp2_with fail
      refine (l02Span_any coast 1 lim _).mono ?_
      rintro e w3 ⟨rfl, hw⟩
      rw [hw]
      clear hw w3
      go_wp2_with fail
      go_ret
      exact ⟨by rw [yx HO]; rfl, yx B2⟩
  · have HO : Hid (trackB ⟨L, lim, mode, A, B, C, D, coast, fr⟩ = false) := yz (by rw [yx HH, mode_n m0 m1 m2])
    go_wp2_with fail
    go_ret
    exact ⟨by rw [yx HO]; rfl, Z⟩
end Go.Proofs.YteoonaanoenjiaaGreatDoor
