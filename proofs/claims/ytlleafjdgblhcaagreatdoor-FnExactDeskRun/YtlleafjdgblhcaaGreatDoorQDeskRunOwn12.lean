/- Several texts in one: IeA, IeB, IeC, IeD, IeE, IeF, IeG. -/
import Derived.Deep.RegionHeld
import Derived.Deep.DeepCutAuto
import Derived.Maps.OwnSet
import Derived.Maps.Views
import Derived.Test.YtlleafjdgblhcaaGreatDoorQDeskRunOwn10
import Derived.Test.YtlleafjdgblhcaaGreatDoorQDeskRunOwn11
import Derived.Test.YtlleafjdgblhcaaGreatDoorQDeskRunOwn9
import Derived.Test.YtlleafjdgblhcaaGreatDoorQDeskRunOwn7
import Derived.Test.YtlleafjdgblhcaaGreatDoorQDeskRunOwn1
namespace Go.Proofs.YtlleafjdgblhcaaGreatDoor
set_option linter.unusedVariables false
set_option linter.unusedSimpArgs false
set_option maxRecDepth 100000
set_option maxHeartbeats 8000000
section
open Go.RowKit Go.Sort
def mg (w : World) (b : Nat) (v0 v1 v2 : Value) (c m : Int) : Prop := w.cell? ⟨b, 0, none⟩ = some v0 ∧ w.cell? ⟨b, 1, none⟩ = some v1 ∧ w.cell? ⟨b, 2, none⟩ = some v2 ∧ w.cell? ⟨b, 3, none⟩ = some (.int .i64 c) ∧ w.cell? ⟨b, 4, none⟩ = some (.int .i64 m)
theorem bq {w w' : World} {a : Addr} {v : Value} (h : w.cell? a = some v) (hB : Below w.heap.size w w') : w'.cell? a = some v := (hB.cell (World.block_lt_of_cell? w a h)).trans h
theorem dU {w w' : World} {a : Addr} {v : Value} {row : Option Nat} (h : w.cell? a = some v) (hg : w.grownBy w' row) (hne : some a.block ≠ row) : w'.cell? a = some v := (World.cell?_of_block (hg.block a.block (World.block_lt_of_cell? w a h) hne)).trans h
theorem mg.kept {w w' : World} {b : Nat} {v0 v1 v2 : Value} {c m : Int} (h : mg w b v0 v1 v2 c m) (hB : Below w.heap.size w w') : mg w' b v0 v1 v2 c m := ⟨bq h.1 hB, bq h.2.1 hB, bq h.2.2.1 hB, bq h.2.2.2.1 hB, bq h.2.2.2.2 hB⟩
theorem mg.lt {w : World} {b : Nat} {v0 v1 v2 : Value} {c m : Int} (h : mg w b v0 v1 v2 c m) : b < w.heap.size := World.block_lt_of_cell? w _ h.1
def gE (w : World) (b : Nat) : Prop := ∀ i, w.frozen? ⟨b, i, none⟩ = false
theorem gE.kept {w w' : World} {b : Nat} (h : gE w b) (hb : b < w.heap.size) (hB : Below w.heap.size w w') : gE w' b := fun i => (hB.frozen (p := ⟨b, i, none⟩) hb).trans (h i)
theorem gE.set {w : World} {b : Nat} (h : gE w b) (p : Addr) (v : Value) : gE (w.setCell p v) b := fun i => by rw [World.frozen?_setCell]; exact h i
def ld (w : World) (x : Nat) (ir : Option Addr) (ids : List Int) : Prop := (ids = [] ∧ ir = none) ∨ ∃ g, ir = some ⟨g, 0, none⟩ ∧ g ≠ x ∧ g < w.heap.size ∧ ∀ i, i < ids.length → w.cell? ⟨g, i, none⟩ = some (.int .i64 (ids.getD i 0))
theorem ld.nums {w : World} {x : Nat} {ir : Option Addr} {ids : List Int} (h : ld w x ir ids) : gx w ir ids ids.length := by
 rcases h with ⟨rfl, _⟩ | ⟨g, rfl, _, hl, hc⟩
 ·exact .inl rfl
 ·exact .inr ⟨g, 0, rfl, hl, fun i hi => by rw [Nat.zero_add]; exact hc i hi⟩
theorem ld.grown {w w' : World} {x : Nat} {ir : Option Addr} {ids : List Int} (h : ld w x ir ids) (hg : w.grownBy w' (some x)) : ld w' x ir ids := by
 rcases h with h | ⟨g, hi, hn, hl, hc⟩
 ·exact .inl h
 ·exact .inr ⟨g, hi, hn, Nat.lt_of_lt_of_le hl hg.size, fun i hi => dU (hc i hi) hg (fun e => hn (Option.some.inj e))⟩
def uk (a : Option Addr) (x : Nat) : Prop := ∀ y, a = some y → y.block ≠ x
theorem Ee {w w' : World} {a : Option Addr} {L : List St} {n x : Nat} (h : aR w a L n) (hg : w.grownBy w' (some x)) (hne : uk a x) : aR w' a L n := by
 rcases h with h | ⟨b, o, rfl, hb, hc⟩
 ·exact .inl h
 ·refine .inr ⟨b, o, rfl, Nat.lt_of_lt_of_le hb hg.size, fun i hi => ?_⟩
  have hn : ∀ k, some (⟨b, k, none⟩ : Addr).block ≠ some x := fun k e => hne _ rfl (Option.some.inj e)
  obtain ⟨c0, c1, c2, c3⟩ := hc i hi
  exact ⟨dU c0 hg (hn _), dU c1 hg (hn _), dU c2 hg (hn _), dU c3 hg (hn _)⟩
theorem Ex {w w' : World} {a : Option Addr} {L : List D3} {n x : Nat} (h : cf w a L n) (hg : w.grownBy w' (some x)) (hne : uk a x) : cf w' a L n := by
 rcases h with h | ⟨b, o, rfl, hb, hc⟩
 ·exact .inl h
 ·refine .inr ⟨b, o, rfl, Nat.lt_of_lt_of_le hb hg.size, fun i hi => ?_⟩
  have hn : ∀ k, some (⟨b, k, none⟩ : Addr).block ≠ some x := fun k e => hne _ rfl (Option.some.inj e)
  obtain ⟨c0, c1, c2⟩ := hc i hi
  exact ⟨dU c0 hg (hn _), dU c1 hg (hn _), dU c2 hg (hn _)⟩
structure ko (w : World) (x : Nat) (L : List St) (S : List D3) (ar br : Option Addr) (cr dr : Nat) (s : SeN) : Prop where
 cells : ∃ v, mg w x (.slice ar L.length cr) (.slice br S.length dr) v (s.count : Int) (s.many : Int) ∧ w.ownsRow (x + 1) 2 1 v s.best.length (fd s.best)
 free : gE w x
 stars : aR w ar L L.length
 dirs : cf w br S S.length
 apS : uk ar x
 apD : uk br x
theorem CV {w w' : World} {B n m : Nat} {t : TypeId} {v : Value} {xs : List Value} (h : w.ownsRow B t m v n xs) (hB : Below w.heap.size w w') : w'.ownsRow B t m v n xs := by
 obtain ⟨h1, h2⟩ := h
 refine ⟨h1, ?_⟩
 rcases h2 with h2 | ⟨g, c', cur, e, hg, hh, r⟩
 ·exact .inl h2
 ·exact .inr ⟨g, c', cur, e, hg, by rw [hB.block g (Array.getElem?_eq_some_iff.1 hh).1]; exact hh, r⟩
theorem oK {w : World} {x n m : Nat} {t : TypeId} {v : Value} {xs : List Value} (h : w.ownsRow (x + 1) t m v n xs) (o : Nat) (y : Value) : (w.setCell ⟨x, o, none⟩ y).ownsRow (x + 1) t m v n xs := by
 obtain ⟨h1, h2⟩ := h
 refine ⟨h1, ?_⟩
 rcases h2 with h2 | ⟨g, c', cur, e, hg, hh, r⟩
 ·exact .inl h2
 ·exact .inr ⟨g, c', cur, e, hg, by rw [Below.heap_setCell w ⟨x, o, none⟩ y g (by show g ≠ x; omega)]; exact hh, r⟩
theorem ch {w w' : World} {x : Nat} (h : Below w.heap.size w w') : w.grownBy w' (some x) := ⟨h.os, h.tape, h.output, h.size, fun k hk _ => h.block k hk⟩
theorem ko.kept {w w' : World} {x : Nat} {L : List St} {S : List D3} {ar br : Option Addr} {cr dr : Nat} {s : SeN} (h : ko w x L S ar br cr dr s) (hB : Below w.heap.size w w') : ko w' x L S ar br cr dr s := by
 obtain ⟨⟨v, h1, h2⟩, hf, hs, hd, a1, a2⟩ := h
 exact ⟨⟨v, h1.kept hB, CV h2 hB⟩, hf.kept h1.lt hB, hs.kept hB, hd.kept hB, a1, a2⟩
def da (L : List St) (S : List D3) (ids : List Int) (a : Int) : Bool := iZ L S ids (vA S ids.length, (a, atV L L.length a)) ids.length
def tw (L : List St) (ids : List Int) : Prop := ∀ i, i < ids.length → ids.getD i 0 ≠ 0 → aL (atV L L.length (ids.getD i 0)).1 (atV L L.length (ids.getD i 0)).2.1 (atV L L.length (ids.getD i 0)).2.2 = true
def AR (L : List St) (S : List D3) (ar br : Option Addr) (cr dr x r : Nat) : Prop := ∀ (ids : List Int) (s : SeN) (ir : Option Addr) (er : Nat) (w : World), ids.length + r = S.length → tw L ids → s.many + 13 ^ r ≤ 100000000 → s.count ≤ 6 → (ir = none → er = 0) → ld w x ir ids → ko w x L S ar br cr dr s →
  Calls Tryz.prog 65 #[.pointer (some ⟨x, 0, none⟩), .slice ir ids.length er, .int .i64 (aQ ids : Int)] w fun e w' => (∃ v, e = .returned v) ∧ ko w' x L S ar br cr dr (dY (da L S) (L.map (·.1)) r ids s) ∧ w.grownBy w' (some x)
theorem pk (L : List St) (S : List D3) (ar br : Option Addr) (cr dr x r : Nat) (hm6 : S.length ≤ 6) (ids : List Int) (s : SeN) (ir : Option Addr) (er : Nat) (w : World) (hl : ids.length + r = S.length) (hc6 : s.count ≤ 6) (hst : ko w x L S ar br cr dr s) (hp : aQ ids + r < s.count) :
  Calls Tryz.prog 65 #[.pointer (some ⟨x, 0, none⟩), .slice ir ids.length er, .int .i64 (aQ ids : Int)] w fun e w' => (∃ v, e = .returned v) ∧ ko w' x L S ar br cr dr (dY (da L S) (L.map (·.1)) r ids s) ∧ w.grownBy w' (some x) := by
 have HS := yz hst
 have HF := yz (wu (F := da L S) (A := L.map (·.1)) hp)
 obtain ⟨⟨v, h1, h2⟩, hf, hs, hd, a1, a2⟩ := hst
 obtain ⟨c0, c1, c2, c3, c4⟩ := h1
 have r1 := cell_regrown c1
 have r3 := cell_regrown c3
 have hc := kO ids
 generalize aQ ids = cn at *
 generalize ids.length = k at *
 generalize S.length = m at *
 clear h2 hf hs hd a1 a2 c0 c1 c2 c3 c4
 have hq : (cn : Int) + (m : Int) - (k : Int) < (s.count : Int) := by omega
 go_enter Tryz.func65, Tryz.ntmps65
 go_wp2_with fail
 refine wp_region_quiet_below (by kernel_rfl) (by kernel_rfl) ?_
 repeat (go_big_quiet_step (fail))
 refine wpQuiet_nil ?_
 intro _ hw'
 obtain ⟨⟨dq, osq⟩, hw''⟩ := hw'
 subst hw''
 have hx := below_regrown w dq osq
 go_wp2_with fail
 refine bodyPost_ret (results_none rfl _ _ _) rfl ?_
 exact ⟨⟨_, rfl⟩, by rw [yy HF]; exact (yy HS).kept hx, ch hx⟩
theorem om {P : Program} (w : World) (t ty e : TypeId) (i : TypeInfo) (ht : P.underlying t = some (.slice e)) (hi : P.info? e = some i) (g : Nat) :
  (Builtin.append_ #[t, t] ty #[.slice (some ⟨g, 0, none⟩) 0 0, .slice none 0 0]).run P w = .ok (.slice (some ⟨g, 0, none⟩) 0 0) w := by
 simp [Builtin.append_, run_underlying ht, sizeOf, typeInfo, hi, Builtin.lenOf, Builtin.firstCells, loadCells, loadCellsFrom, storeCells]
theorem CY {w : World} {g : Nat} {ids : List Int} (hc : ∀ i, i < ids.length → w.cell? ⟨g, i, none⟩ = some (.int .i64 (ids.getD i 0))) (j : Nat) (u : Value) (hj : (fd ids)[j]? = some u) : w.cell? ((⟨g, 0, none⟩ : Addr).add j) = some u := by
 have hA : (⟨g, 0, none⟩ : Addr).add j = ⟨g, 0 + j, none⟩ := by unfold Addr.add; split <;> simp_all
 unfold fd at hj
 rw [List.getElem?_map] at hj
 have hlt : j < ids.length := by
  rcases Nat.lt_or_ge j ids.length with h | h
  ·exact h
  ·rw [List.getElem?_eq_none h] at hj; cases hj
 rw [hA, Nat.zero_add, hc j hlt]
 rw [List.getElem?_eq_getElem hlt] at hj
 rw [List.getD_eq_getElem?_getD, List.getElem?_eq_getElem hlt]
 exact hj
theorem Cb (ids : List Int) : (fd ids).length = ids.length := by unfold fd; rw [List.length_map]
theorem fQ (w : World) {ops : Array Oper} {rest : List Oper} {o : Oper} {a : Act} {Q : Exit → Act → World → Prop} (hgd : o.guard = none) (s x : Operand)
  (ho : o.op = .call { callee := .builtin .append, args := #[s, x], argTypes := #[67, 67] })
  (base g : Nat) (hs : a.eval s = .slice (some ⟨g, 0, none⟩) 0 0) (hown : w.ownsRow base 2 1 (.slice (some ⟨g, 0, none⟩) 0 0) 0 []) (y : Nat) (ir : Option Addr) (er : Nat) (ids : List Int) (hx : a.eval x = .slice ir ids.length er) (he : ir = none → er = 0) (hI : ld w y ir ids) (hk : ids.length ≤ 6) (hbase : base ≤ w.heap.size)
  (h : ∀ v' w', w'.ownsRow base 2 1 v' ids.length (fd ids) → w.grownBy w' (some g) → wpList Tryz.prog ops Q rest (a.put o.dst v') w') : wpList Tryz.prog ops Q (o :: rest) a w := by
 obtain ⟨i0, hinf, hz0, hz1, hz2⟩ := info_parts kp
 rcases hI with ⟨rfl, rfl⟩ | ⟨b, rfl, _, hl, hc⟩
 ·obtain rfl := he rfl
  have hr := om (P := Tryz.prog) w 67 o.type 2 i0 Tryz.underlying67 hinf g
  refine wpList_plain hgd fun _ hK => ?_
  unfold Oper.wp execOp
  simp only [List.length_nil] at hx
  simp only [ho, resolve, invoke, builtin, Sem.run_bind, Sem.run_pure, Result.andThen_ok, List.map_toArray, List.map_cons, List.map_nil, hs, hx, hr]
  exact hK _ _ (h _ _ hown ⟨rfl, rfl, rfl, Nat.le_refl _, fun _ _ _ => rfl⟩)
 ·have hm : 6 ≤ maxLen := by decide +kernel
  refine wpList_append_own w hgd s x 67 ho base 2 i0 (.int .i64 0) 1 8 Tryz.underlying67 hinf hz0 hz1 hz2 rfl (by decide) _ 0 [] hs hown ⟨b, 0, none⟩ ids.length er (fd ids) hx (by rw [Cb, Nat.mul_one]) (CY hc) (fun u hu => rX hu) (by omega) (by omega) hbase ?_
  intro v' w' h2 h3 _
  rw [Nat.zero_add, List.nil_append] at h2
  exact h v' w' h2 h3
theorem fG {w : World} {B n m : Nat} {t : TypeId} {v : Value} {xs : List Value} (h : w.ownsRow B t m v n xs) : ∃ a cap, v = .slice a n cap := by
 rcases h.2 with ⟨h1, h0⟩ | ⟨g, c', cur, e, _⟩
 ·exact ⟨none, 0, by rw [h1, h0]⟩
 ·exact ⟨_, _, e⟩
theorem rH {w w1 : World} {x : Nat} (h : w.grownBy w1 (some x)) (o : Nat) (y : Value) : w.grownBy (w1.setCell ⟨x, o, none⟩ y) (some x) := jX h o y
theorem yN {w w1 : World} {x : Nat} (h : w.grownBy w1 (some x)) (o : Obj) : w.grownBy (w1.alloc o) (some x) := ⟨h.os, h.tape, h.output, Nat.le_trans h.size (by simp), fun k hk hn => (Below.heap_alloc w1 o k (Nat.lt_of_lt_of_le hk h.size)).trans (h.block k hk hn)⟩
theorem DM {w w1 w2 : World} {x g : Nat} (h : w.grownBy w1 (some x)) (hg : w1.grownBy w2 (some g)) (hb : w.heap.size ≤ g) : w.grownBy w2 (some x) := ⟨hg.os.trans h.os, hg.tape.trans h.tape, hg.output.trans h.output, Nat.le_trans h.size hg.size, fun k hk hn => (hg.block k (Nat.lt_of_lt_of_le hk h.size) (fun e => by have := Option.some.inj e; omega)).trans (h.block k hk hn)⟩
theorem iA {w w1 w2 : World} {x : Nat} (h : w.grownBy w1 (some x)) (hg : w1.grownBy w2 (some x)) : w.grownBy w2 (some x) := ⟨hg.os.trans h.os, hg.tape.trans h.tape, hg.output.trans h.output, Nat.le_trans h.size hg.size, fun k hk hn => (hg.block k (Nat.lt_of_lt_of_le hk h.size) hn).trans (h.block k hk hn)⟩
theorem mg.grown {w w' : World} {b : Nat} {v0 v1 v2 : Value} {c m : Int} {row : Option Nat} (h : mg w b v0 v1 v2 c m) (hg : w.grownBy w' row) (hne : some b ≠ row) : mg w' b v0 v1 v2 c m := ⟨dU h.1 hg hne, dU h.2.1 hg hne, dU h.2.2.1 hg hne, dU h.2.2.2.1 hg hne, dU h.2.2.2.2 hg hne⟩
theorem gE.grown {w w' : World} {b : Nat} {row : Option Nat} (h : gE w b) (hb : b < w.heap.size) (hg : w.grownBy w' row) (hne : some b ≠ row) : gE w' b := fun i => by
 have h1 := h i
 unfold World.frozen? at h1 ⊢
 rw [hg.block b hb hne]
 exact h1
theorem CG {w : World} {b : Nat} {v0 v1 v2 : Value} {c m : Int} (h : mg w b v0 v1 v2 c m) (c' m' : Int) : mg ((w.setCell ⟨b, 3, none⟩ (.int .i64 c')).setCell ⟨b, 4, none⟩ (.int .i64 m')) b v0 v1 v2 c' m' := by
 obtain ⟨h0, h1, h2, h3, h4⟩ := h
 refine ⟨?_, ?_, ?_, ?_, ?_⟩ <;> simp [go_sem, h0, h1, h2, h3, h4]
theorem yY {w : World} {b : Nat} {v0 v1 v2 : Value} {c m : Int} (h : mg w b v0 v1 v2 c m) (v' : Value) (m' : Int) : mg ((w.setCell ⟨b, 2, none⟩ v').setCell ⟨b, 4, none⟩ (.int .i64 m')) b v0 v1 v' c m' := by
 obtain ⟨h0, h1, h2, h3, h4⟩ := h
 refine ⟨?_, ?_, ?_, ?_, ?_⟩ <;> simp [go_sem, h0, h1, h2, h3, h4]
theorem yW {w w' : World} {x : Nat} {L : List St} {S : List D3} {ar br : Option Addr} {cr dr : Nat} {s s' : SeN} {v' : Value} (h : ko w x L S ar br cr dr s) (hg : w.grownBy w' (some x)) (hc : mg w' x (.slice ar L.length cr) (.slice br S.length dr) v' (s'.count : Int) (s'.many : Int)) (ho : w'.ownsRow (x + 1) 2 1 v' s'.best.length (fd s'.best)) (hf : gE w' x) : ko w' x L S ar br cr dr s' :=
 ⟨⟨v', hc, ho⟩, hf, Ee h.stars hg h.apS, Ex h.dirs hg h.apD, h.apS, h.apD⟩
theorem zO (L : List St) (S : List D3) (ar br : Option Addr) (cr dr x : Nat) (hm6 : S.length ≤ 6) (ids : List Int) (s : SeN) (ir : Option Addr) (er : Nat) (w : World) (hl : ids.length + 0 = S.length) (hmany : s.many + 1 ≤ 100000000) (hc6 : s.count ≤ 6) (he : ir = none → er = 0) (hI : ld w x ir ids) (hst : ko w x L S ar br cr dr s) (hp : ¬ aQ ids + 0 < s.count) :
  Calls Tryz.prog 65 #[.pointer (some ⟨x, 0, none⟩), .slice ir ids.length er, .int .i64 (aQ ids : Int)] w fun e w' => (∃ v, e = .returned v) ∧ ko w' x L S ar br cr dr (dY (da L S) (L.map (·.1)) 0 ids s) ∧ w.grownBy w' (some x) := by
 obtain ⟨bst, ct, mn⟩ := s
 dsimp only at hmany hc6 hp
 have HS := yz hst
 have HI := yz hI
 have HF := yz (yg (F := da L S) (A := L.map (·.1)) (s := ⟨bst, ct, mn⟩) hp)
 obtain ⟨⟨v, h1, h2⟩, hf, hs, hd, a1, a2⟩ := hst
 dsimp only at h1
 obtain ⟨c0, c1, c2, c3, c4⟩ := h1
 have r1 := cell_regrown c1
 have r3 := cell_regrown c3
 have hc := kO ids
 obtain ⟨cn, hcn⟩ : ∃ cn, aQ ids = cn := ⟨_, rfl⟩
 have HCN := yz hcn
 rw [hcn] at hp hc ⊢
 clear hcn
 by_cases hgt : ct < cn
 ·have hk6 : ids.length ≤ 6 := by omega
  have HE := yz he
  have HKM : Hid (S.length = ids.length) := yz (by omega)
  clear h2 hf hs hd a1 a2 c0 c1 c2 c3 c4 hI he
  rw [yy HKM] at r1
  have hq : ¬ (cn : Int) < (ct : Int) := by omega
  go_enter Tryz.func65, Tryz.ntmps65
  go_wp2_with fail
  refine wp_region_quiet_below (by kernel_rfl) (by kernel_rfl) ?_
  repeat (go_big_quiet_step (fail))
  refine wpQuiet_nil ?_
  intro _ hw'
  obtain ⟨⟨dq, osq⟩, hw''⟩ := hw'
  subst hw''
  have hx := below_regrown w dq osq
  generalize grow (redrawn w dq) osq = w1 at hx ⊢
  have S1 := yz ((yy HS).kept hx)
  have I1 := yz ((yy HI).grown (ch hx))
  have B1 := yz hx
  clear hx r1 r3 HS HI hq
  obtain ⟨⟨v, h1, h2⟩, hf, hs, hd, a1, a2⟩ := yy S1
  dsimp only at h1
  have H1 := yz h1
  have HFr := yz hf
  have hxl := h1.lt
  obtain ⟨c0, c1, c2, c3, c4⟩ := h1
  rw [yy HKM] at c1
  have f2 := hf 2
  have f3 := hf 3
  have f4 := hf 4
  clear hf hs hd a1 a2 h2
  have hgt' : (ct : Int) < (cn : Int) := by omega
  have HO : Hid (bD ⟨bst, ct, mn⟩ ids = ⟨ids, cn, 1⟩) := yz (by unfold bD; rw [yy HCN, if_pos hgt])
  have hz : ((w1.setCell ⟨x, 3, none⟩ (.int .i64 (cn : Int))).setCell ⟨x, 4, none⟩ (.int .i64 0)).heap.size = w1.heap.size := by simp
  have HN : Hid ((((w1.setCell ⟨x, 3, none⟩ (.int .i64 (cn : Int))).setCell ⟨x, 4, none⟩ (.int .i64 0)).alloc (.cells #[] 2)).ownsRow (x + 1) 2 1 (.slice (some ⟨w1.heap.size, 0, none⟩) 0 0) 0 []) := yz (by have := iV ((w1.setCell ⟨x, 3, none⟩ (.int .i64 (cn : Int))).setCell ⟨x, 4, none⟩ (.int .i64 0)) (x + 1) (by omega); rw [hz] at this; exact this)
  have HG2 : Hid (w1.grownBy (((w1.setCell ⟨x, 3, none⟩ (.int .i64 (cn : Int))).setCell ⟨x, 4, none⟩ (.int .i64 0)).alloc (.cells #[] 2)) (some x)) := yz (yN (rH (rH (gP w1 (some x)) _ _) _ _) _)
  have I2 := yz ((yy I1).grown (yy HG2))
  have A2 := yz ((CG (yy H1) (cn : Int) 0).kept (an _ (.cells #[] 2)))
  have F2 := yz ((((yy HFr).set ⟨x, 3, none⟩ (.int .i64 (cn : Int))).set ⟨x, 4, none⟩ (.int .i64 0)).kept (by omega) (an _ (.cells #[] 2)))
  go_wp2_with (at_builtin; refine fQ _ rfl _ _ rfl (x + 1) w1.heap.size rfl (yy HN) x ir er ids rfl (yy HE) (yy I2) hk6 ?d1 ?_)
  case d1 => simp; omega
  intro v' w3 ho hg
  obtain ⟨av, cv, rfl⟩ := fG ho
  have A3 := yz ((yy A2).grown hg (fun e => by have := Option.some.inj e; omega))
  have F3 := yz ((yy F2).grown (yy A2).lt hg (fun e => by have := Option.some.inj e; omega))
  have G3 := yz (DM (yy HG2) hg (Nat.le_refl _))
  have O3 := yz ho
  clear ho hg c0 c1 c2 c3 c4 f2 f3 f4 HN HG2 I2 A2 F2 hz
  obtain ⟨c0, c1, c2, c3, c4⟩ := yy A3
  have f2 := yy F3 2
  have f4 := yy F3 4
  go_wp2_with fail
  refine bodyPost_ret (results_none rfl _ _ _) rfl ?_
  have G4 := rH (rH (yy G3) 2 (.slice av ids.length cv)) 4 (.int .i64 1)
  refine ⟨⟨_, rfl⟩, ?_, iA (ch (yy B1)) G4⟩
  rw [yy HF, yy HO]
  exact yW (yy S1) G4 (yY (yy A3) (.slice av ids.length cv) 1) (oK (oK (yy O3) _ _) _ _) (((yy F3).set _ _).set _ _)
 ·obtain rfl : cn = ct := by omega
  have HO : Hid (bD ⟨bst, cn, mn⟩ ids = ⟨ids, cn, mn + 1⟩) := yz (by unfold bD; dsimp only; rw [yy HCN, if_neg hgt, if_pos rfl])
  have HMN := yz (show (mn : Int) + 1 ≤ 100000000 by omega)
  clear hgt hp hmany
  have hk6 : ids.length ≤ 6 := by omega
  have HE := yz he
  have HKM : Hid (S.length = ids.length) := yz (by omega)
  clear h2 hf hs hd a1 a2 c0 c1 c2 c3 c4 hI he
  rw [yy HKM] at r1
  go_enter Tryz.func65, Tryz.ntmps65
  go_wp2_with fail
  refine wp_region_quiet_below (by kernel_rfl) (by kernel_rfl) ?_
  repeat (go_big_quiet_step (fail))
  refine wpQuiet_nil ?_
  intro _ hw'
  obtain ⟨⟨dq, osq⟩, hw''⟩ := hw'
  subst hw''
  have hx := below_regrown w dq osq
  generalize grow (redrawn w dq) osq = w1 at hx ⊢
  have S1 := yz ((yy HS).kept hx)
  have I1 := yz ((yy HI).grown (ch hx))
  have B1 := yz hx
  clear hx r1 r3 HS HI
  obtain ⟨⟨v, h1, h2⟩, hf, hs, hd, a1, a2⟩ := yy S1
  dsimp only at h1
  have H1 := yz h1
  have HFr := yz hf
  have hxl := h1.lt
  obtain ⟨c0, c1, c2, c3, c4⟩ := h1
  rw [yy HKM] at c1
  have f2 := hf 2
  have f3 := hf 3
  have f4 := hf 4
  clear hf hs hd a1 a2 h2
  have HN : Hid ((w1.alloc (.cells #[] 2)).ownsRow (x + 1) 2 1 (.slice (some ⟨w1.heap.size, 0, none⟩) 0 0) 0 []) := yz (iV w1 (x + 1) (by omega))
  have HG2 : Hid (w1.grownBy (w1.alloc (.cells #[] 2)) (some x)) := yz (yN (gP w1 (some x)) _)
  have I2 := yz ((yy I1).grown (yy HG2))
  have A2 := yz ((yy H1).kept (an _ (.cells #[] 2)))
  have F2 := yz ((yy HFr).kept hxl (an _ (.cells #[] 2)))
  go_wp2_with (at_builtin; refine fQ _ rfl _ _ rfl (x + 1) w1.heap.size rfl (yy HN) x ir er ids rfl (yy HE) (yy I2) hk6 ?d1 ?_)
  case d1 => simp; omega
  intro v' w3 ho hg
  obtain ⟨av, cv, rfl⟩ := fG ho
  have A3 := yz ((yy A2).grown hg (fun e => by have := Option.some.inj e; omega))
  have F3 := yz ((yy F2).grown (yy A2).lt hg (fun e => by have := Option.some.inj e; omega))
  have G3 := yz (DM (yy HG2) hg (Nat.le_refl _))
  have O3 := yz ho
  clear ho hg c0 c1 c2 c3 c4 f2 f3 f4 HN HG2 I2 A2 F2
  obtain ⟨c0, c1, c2, c3, c4⟩ := yy A3
  have hmn := yy HMN
  have hmn0 : (0 : Int) ≤ (mn : Int) := by omega
  generalize hmi : (mn : Int) = mi at *
  have f2 := yy F3 2
  have f4 := yy F3 4
  go_wp2_with fail
  subst hmi
  refine bodyPost_ret (results_none rfl _ _ _) rfl ?_
  have G4 := rH (rH (yy G3) 2 (.slice av ids.length cv)) 4 (.int .i64 ((mn : Int) + 1))
  refine ⟨⟨_, rfl⟩, ?_, iA (ch (yy B1)) G4⟩
  rw [yy HF, yy HO]
  exact yW (yy S1) G4 (yY (yy A3) (.slice av ids.length cv) ((mn : Int) + 1)) (oK (oK (yy O3) _ _) _ _) (((yy F3).set _ _).set _ _)
theorem zd (ids : List Int) (a : Int) : fd ids ++ [.int .i64 a] = fd (ids ++ [a]) := by unfold fd; rw [List.map_append]; rfl
theorem ym {w : World} {B x cap : Nat} {a : Option Addr} {ids : List Int} (h : w.ownsRow B 2 1 (.slice a ids.length cap) ids.length (fd ids)) (hx : x < B) : ld w x a ids := by
 rcases h.2 with ⟨h1, h0⟩ | ⟨g, c', cur, e, hb, hg, hnc, hcm, hcs, htake⟩
 ·injection h1 with h1
  exact .inl ⟨List.eq_nil_of_length_eq_zero h0, h1⟩
 ·injection e with e1
  refine .inr ⟨g, e1, by omega, (Array.getElem?_eq_some_iff.1 hg).1, fun i hi => ?_⟩
  rw [cell_of_row w g i cur _ _ hg]
  have e4 : cur[i]? = (fd ids)[i]? := by
   rw [← htake, List.getElem?_take, if_pos (by omega)]
   simp
  rw [e4]
  unfold fd
  rw [List.getElem?_map, List.getElem?_eq_getElem hi, List.getD_eq_getElem?_getD, List.getElem?_eq_getElem hi]
  rfl
theorem uK {w : World} {B n cap : Nat} {a : Option Addr} {xs : List Value} (h : w.ownsRow B 2 1 (.slice a n cap) n xs) (ha : a = none) : cap = 0 := by
 rcases h.2 with ⟨h1, h0⟩ | ⟨g, c', cur, e, _⟩
 ·injection h1
 ·injection e with e1; rw [ha] at e1; cases e1
theorem Cj {w : World} {B n : Nat} {v : Value} {xs : List Value} (h : w.ownsRow B 2 1 v n xs) (g : Nat) (e : v.ownBlock = some g) : B ≤ g := by
 rcases h.2 with ⟨h1, _⟩ | ⟨g', c', cur, e', hb, _⟩
 ·rw [h1] at e; cases e
 ·rw [e'] at e; simp [Value.ownBlock] at e; omega
theorem kg (w : World) {ops : Array Oper} {rest : List Oper} {o : Oper} {a : Act} {Q : Exit → Act → World → Prop} (hgd : o.guard = none) (s x : Operand)
  (ho : o.op = .call { callee := .builtin .append, args := #[s, x], argTypes := #[67, 67] })
  (base : Nat) (v : Value) (ids : List Int) (hs : a.eval s = v) (hown : w.ownsRow base 2 1 v ids.length (fd ids)) (g : Nat) (z : Int) (hx : a.eval x = .slice (some ⟨g, 0, none⟩) 1 1) (hc : w.cell? ⟨g, 0, none⟩ = some (.int .i64 z)) (hk : ids.length ≤ 6) (hbase : base ≤ w.heap.size)
  (h : ∀ v' w', w'.ownsRow base 2 1 v' (ids ++ [z]).length (fd (ids ++ [z])) → w.grownBy w' v.ownBlock → wpList Tryz.prog ops Q rest (a.put o.dst v') w') : wpList Tryz.prog ops Q (o :: rest) a w := by
 obtain ⟨i0, hinf, hz0, hz1, hz2⟩ := info_parts kp
 have hm : 7 ≤ maxLen := by decide +kernel
 refine wpList_append_own w hgd s x 67 ho base 2 i0 (.int .i64 0) 1 8 Tryz.underlying67 hinf hz0 hz1 hz2 rfl (by decide) v ids.length (fd ids) hs hown ⟨g, 0, none⟩ 1 1 [.int .i64 z] hx rfl ?_ (fun u hu => by rw [List.mem_singleton.1 hu]; rfl) (by omega) (by omega) hbase ?_
 ·intro j u hj
  match j, hj with
  | 0, hj =>
   obtain rfl : Value.int .i64 z = u := by simpa using hj
   have hA : (⟨g, 0, none⟩ : Addr).add 0 = ⟨g, 0, none⟩ := by unfold Addr.add; split <;> simp_all
   rw [hA]
   exact hc
  | j + 1, hj => simp at hj
 ·intro v' w' h2 h3 _
  rw [zd] at h2
  exact h v' w' (by rw [List.length_append]; exact h2) h3
theorem pu {L : List St} {ids : List Int} {a : Int} (h : tw L ids) (ha : a ≠ 0 → aL (atV L L.length a).1 (atV L L.length a).2.1 (atV L L.length a).2.2 = true) : tw L (ids ++ [a]) := by
 intro i hi h0
 rw [List.length_append, List.length_singleton] at hi
 by_cases e : i < ids.length
 ·have e1 : (ids ++ [a]).getD i 0 = ids.getD i 0 := by rw [List.getD_eq_getElem?_getD, List.getD_eq_getElem?_getD, List.getElem?_append_left e]
  rw [e1] at h0 ⊢
  exact h i e h0
 ·have e1 : (ids ++ [a]).getD i 0 = a := by
   rw [List.getD_eq_getElem?_getD, List.getElem?_append_right (by omega), show i - ids.length = 0 by omega]
   rfl
  rw [e1] at h0 ⊢
  exact ha h0
theorem wW (F : List Int → Int → Bool) (A : List Int) : ∀ (r : Nat) (ids : List Int) (s : SeN), s.count ≤ 6 → ids.length + r ≤ 6 → (dY F A r ids s).count ≤ 6 := by
 intro r ids s h1 h2
 rw [iT]
 have hall : ∀ l ∈ eh F A r ids, aQ l ≤ 6 := fun l hl => by have := mO F A r ids l hl; have := kO ids; omega
 generalize eh F A r ids = M at hall
 induction M generalizing s with
 | nil => exact h1
 | cons l M ih =>
  rw [List.foldl_cons]
  refine ih (bD s l) ?_ (fun x hx => hall x (by simp [hx]))
  have h3 := tq s l
  have h4 := hall l (by simp)
  omega
theorem po (F : List Int → Int → Bool) (A : List Int) (r : Nat) (ids : List Int) (s : SeN) (h1 : s.count ≤ 6) (h2 : ids.length + 1 + r ≤ 6) : ∀ i, i ≤ A.length → (eW F A r ids s i).count ≤ 6
 | 0, _ => h1
 | i + 1, h => by
  rw [jC F A r ids s (by omega)]
  have h3 := po F A r ids s h1 h2 i (by omega)
  split
  ·exact wW F A r _ _ h3 (by rw [List.length_append, List.length_singleton]; omega)
  ·exact h3
theorem AZ {L : List St} {i : Nat} (hi : i < L.length) : (L.map (·.1)).getD i 0 = (stA L i).1 := by
 unfold stA
 rw [List.getD_eq_getElem?_getD, List.getElem?_map, List.getD_eq_getElem?_getD, List.getElem?_eq_getElem hi]
 rfl
theorem pI {L : List St} (hk : aV L = true) {i : Nat} (hi : i < L.length) : aL (atV L L.length (stA L i).1).1 (atV L L.length (stA L i).1).2.1 (atV L L.length (stA L i).1).2.2 = true ∧ (stA L i).1 ≠ 0 := by
 rw [tU hk hi]
 have h := (bQ hk).2 i hi
 unfold em at h
 simp only [Bool.and_eq_true] at h
 refine ⟨?_, fun e => ?_⟩
 ·simp_all
 ·have : idB (stA L i).1 = true := by simp_all
  rw [e] at this
  exact absurd this (by decide)
theorem zs (L : List St) (S : List D3) (ar br : Option Addr) (cr dr x r : Nat) (hk : aV L = true) (hsp : aU S = true) (hdr : S.length ≤ dr) (hd9 : dr ≤ 9223372036854775807) (ih : AR L S ar br cr dr x r)
  (ids : List Int) (s : SeN) (ir : Option Addr) (er : Nat) (w : World) (hl : ids.length + (r + 1) = S.length) (hsm : tw L ids) (hmany : s.many + 13 ^ (r + 1) ≤ 100000000) (hc6 : s.count ≤ 6) (he : ir = none → er = 0) (hI : ld w x ir ids) (hst : ko w x L S ar br cr dr s) (hp : ¬ aQ ids + (r + 1) < s.count) :
  Calls Tryz.prog 65 #[.pointer (some ⟨x, 0, none⟩), .slice ir ids.length er, .int .i64 (aQ ids : Int)] w fun e w' => (∃ v, e = .returned v) ∧ ko w' x L S ar br cr dr (dY (da L S) (L.map (·.1)) (r + 1) ids s) ∧ w.grownBy w' (some x) := by
 have hn12 : L.length ≤ 12 := (bQ hk).1
 have hm6 : S.length ≤ 6 := (bK hsp).1
 have hAl : (L.map (·.1)).length = L.length := List.length_map _
 have HF := yz (xX (F := da L S) (A := L.map (·.1)) hp)
 have HIH := yz ih
 have HE := yz he
 have HSM := yz hsm
 have HS := yz hst
 have HI0 := yz hI
 have cF : Hid (∀ (id : Int) (W : World), aL (atV L L.length id).1 (atV L L.length id).2.1 (atV L L.length id).2.2 = true → aR W ar L L.length → cf W br S S.length → gx W ir ids ids.length → Calls Tryz.prog 87 #[.slice ar L.length cr, .slice br (ids.length + 1) dr, .slice ir ids.length er, .int .i64 id] W fun e w' => e = .returned (.bool (da L S ids id)) ∧ Below W.heap.size W w') :=
  yz (fun id W h1 h2 h3 h4 => vL L S ids ids.length id ar br ir cr dr er W (by omega) hn12 h2 (h3.less (by omega)) h4 (fun i hi => lW ((bK hsp).2 i (by omega))) h1 (fun i hi h0 => hsm i hi h0))
 have HMB : Hid (∀ i, i ≤ L.length → (eW (da L S) (L.map (·.1)) r ids s i).many + 13 ^ r ≤ 100000000) := yz (fun i hi => by
  have h1 := pM (da L S) (L.map (·.1)) (by omega) r ids s i (by omega)
  have h2 : i * 13 ^ r ≤ 12 * 13 ^ r := Nat.mul_le_mul_right _ (by omega)
  rw [Nat.pow_succ] at hmany
  omega)
 have HCB : Hid (∀ i, i ≤ L.length → (eW (da L S) (L.map (·.1)) r ids s i).count ≤ 6) := yz (fun i hi => po (da L S) (L.map (·.1)) r ids s hc6 (by omega) i (by omega))
 have hc := kO ids
 have hkm : ids.length + 1 ≤ S.length := by omega
 have hk6 : ids.length ≤ 6 := by omega
 have hq : ¬ (aQ ids + S.length - ids.length < s.count) := by omega
 obtain ⟨⟨v, h1, h2⟩, hf, hs, hd, a1, a2⟩ := hst
 obtain ⟨c0, c1, c2, c3, c4⟩ := h1
 have r1 := cell_regrown c1
 have r3 := cell_regrown c3
 clear h2 hf hs hd a1 a2 c0 c1 c2 c3 c4 hI ih he hsm hmany hp
 have hq' : ¬ (aQ ids : Int) + (S.length : Int) - (ids.length : Int) < (s.count : Int) := by omega
 have hne : ¬ (ids.length : Int) = (S.length : Int) := by omega
 have e31 : ((ids.length : Int) == (S.length : Int)) = false := by rw [beq_eq_false_iff_ne]; exact hne
 go_enter Tryz.func65, Tryz.ntmps65
 go_wp2_with fail
 refine wp_region_quiet_below (by kernel_rfl) (by kernel_rfl) ?_
 repeat (go_big_quiet_step (fail))
 refine wpQuiet_nil ?_
 intro _ hw'
 obtain ⟨⟨dq, osq⟩, hw''⟩ := hw'
 subst hw''
 have hx := below_regrown w dq osq
 generalize grow (redrawn w dq) osq = w1 at hx ⊢
 have S1 := yz ((yy HS).kept hx)
 have I1 := yz ((yy HI0).grown (ch (x := x) hx))
 have G1 := yz (ch (x := x) hx)
 clear hx r1 r3 HS
 obtain ⟨⟨v, h1, h2⟩, hf, hs, hd, a1, a2⟩ := yy S1
 obtain ⟨c0, c1, c2, c3, c4⟩ := h1
 clear h2 hf hs hd a1 a2
 go_wp2_with fail
 go_loopw [7] (fun i wr => ∃ k : Nat, k ≤ L.length ∧ i = .int .i64 k ∧ Hid (ko wr x L S ar br cr dr (eW (da L S) (L.map (·.1)) r ids s k)) ∧ Hid (w.grownBy wr (some x))) (fun i _ => L.length - (intOf i).toNat)
 case atStart => exact ⟨0, Nat.zero_le _, rfl, yz (by rw [qh]; exact yy S1), G1⟩
 case round =>
  clear c0 c1 c2 c3 c4 S1 G1 I1
  obtain ⟨k, hkl, rfl, HSt, HG⟩ := hrel
  have HI := yz ((yy HI0).grown (yy HG))
  obtain ⟨⟨v, h1, h2⟩, hf, hs, hd, a1, a2⟩ := yy HSt
  obtain ⟨c0, c1, c2, c3, c4⟩ := h1
  by_cases hkn : k < L.length
  ·obtain ⟨⟨s1, s2, s3, s4⟩, hst⟩ : ∃ q, stA L k = q := ⟨_, rfl⟩
   have hsm1 := pI hk hkn
   have HMA : Hid ((L.map (·.1)).getD k 0 = s1) := yz (by rw [AZ hkn, hst])
   rw [hst] at hsm1
   have HST := yz hst
   have hkn2 : (k : Int) < (L.length : Int) := by omega
   rcases hs with hs | ⟨b, o, rfl, hb, hcs⟩
   ·omega
   have d0 := (hcs k hkn).1
   rw [hst] at d0
   have HS2 : Hid (aR wr (some ⟨b, o, none⟩) L L.length) := yz (.inr ⟨b, o, rfl, hb, hcs⟩)
   have HD2 := yz hd
   have cFi := yz (fun (W : World) (hB : Below wr.heap.size wr W) => yy cF s1 W hsm1.1 ((yy HS2).kept hB) ((yy HD2).kept hB) ((yy HI).nums.kept hB))
   have HS1 := yz hsm1
   clear hcs hst h2 hf hd a1 a2 hsm1
   go_wp2_with fail
   have q0 := cell_regrown c0
   have q1 := cell_regrown c1
   have hkd : (ids.length : Int) + 1 ≤ (dr : Int) := by omega
   cases hfit : da L S ids s1
   ·rw [hfit] at cFi
    refine wp_region_quiet_below (by kernel_rfl) (by kernel_rfl) ?_
    repeat (go_big_quiet_step (first | (with_reducible exact Calls.regrown_of (yy cFi _ (below_regrown _ _ _)))))
    refine wpQuiet_nil ?_
    intro _ hw'
    obtain ⟨⟨dq2, osq2⟩, hw''⟩ := hw'
    subst hw''
    have hx := below_regrown wr dq2 osq2
    generalize grow (redrawn wr dq2) osq2 = W2 at hx ⊢
    have HR : Hid (eW (da L S) (L.map (·.1)) r ids s (k + 1) = eW (da L S) (L.map (·.1)) r ids s k) := yz (by rw [jC _ _ _ _ _ (by omega), yy HMA, hfit]; rfl)
    have S5 : Hid (ko W2 x L S (some ⟨b, o, none⟩) br cr dr (eW (da L S) (L.map (·.1)) r ids s (k + 1))) := yz (by rw [yy HR]; exact (yy HSt).kept hx)
    have G5 := yz (iA (yy HG) (ch (x := x) hx))
    clear hx c0 c1 c2 c3 c4 d0 q0 q1 HSt HG HI cFi
    go_wp2_with fail
    go_roundw
    case rel => first | exact ⟨k + 1, by omega, by go_num, S5, G5⟩ | exact ⟨k + 1, by omega, by go_num, S5⟩
    case measure => simp [intOf]; omega
   ·rw [hfit] at cFi
    refine wp_region_quiet_below (by kernel_rfl) (by kernel_rfl) ?_
    repeat (go_big_quiet_step (first | (with_reducible exact Calls.regrown_of (yy cFi _ (below_regrown _ _ _)))))
    refine wpQuiet_nil ?_
    intro _ hw'
    obtain ⟨⟨dq2, osq2⟩, hw''⟩ := hw'
    subst hw''
    have hx := below_regrown wr dq2 osq2
    generalize grow (redrawn wr dq2) osq2 = W2 at hx ⊢
    have HR : Hid (eW (da L S) (L.map (·.1)) r ids s (k + 1) = dY (da L S) (L.map (·.1)) r (ids ++ [s1]) (eW (da L S) (L.map (·.1)) r ids s k)) := yz (by rw [jC _ _ _ _ _ (by omega), yy HMA, hfit]; rfl)
    replace HSt := yz ((yy HSt).kept hx)
    replace HG := yz (iA (yy HG) (ch (x := x) hx))
    replace HI := yz ((yy HI).grown (ch (x := x) hx))
    clear hx c0 c1 c2 c3 c4 d0 q0 q1 cFi HS2 HD2
    have hlx : x < W2.heap.size := by obtain ⟨⟨_, hh, _⟩, _⟩ := yy HSt; exact hh.lt
    have HN := yz (iV W2 W2.heap.size (Nat.le_refl _))
    have IA := yz ((yy HI).grown (ch (x := x) (an W2 (.cells #[] 2))))
    go_wp2_with (at_builtin; refine fQ _ rfl _ _ rfl W2.heap.size W2.heap.size rfl (yy HN) x ir er ids rfl (yy HE) (yy IA) hk6 ?d1 ?_)
    try case d1 => simp
    intro v1 V1 ho1 hg1
    obtain ⟨av, cv, rfl⟩ := fG ho1
    have HB1 : Hid (Below W2.heap.size W2 V1) := yz ((an W2 (.cells #[] 2)).trans ⟨hg1.os, hg1.tape, hg1.output, hg1.size, fun k hk' => hg1.block k (by simp; omega) (fun e => by have := Option.some.inj e; omega)⟩)
    have O4 := yz (CV ho1 (an V1 (.cells #[.int .i64 s1] 2)))
    have HC1 : Hid ((V1.alloc (.cells #[.int .i64 s1] 2)).cell? ⟨V1.heap.size, 0, none⟩ = some (.int .i64 s1)) := yz (by simp)
    clear ho1 hg1 IA HN
    go_wp2_with (at_builtin; refine kg _ rfl _ _ rfl W2.heap.size (.slice av ids.length cv) ids rfl (yy O4) V1.heap.size s1 rfl (yy HC1) hk6 ?d2 ?_)
    try case d2 => have := (yy HB1).size; simp; omega
    intro v2 V2 ho2 hg2
    obtain ⟨aw, cw, rfl⟩ := fG ho2
    have hrow : ∀ g, Value.ownBlock (.slice av ids.length cv) = some g → W2.heap.size ≤ g := fun g e => Cj (yy O4) g e
    have hB2 : Below W2.heap.size W2 V2 := (ak (yy HB1) (an V1 (.cells #[.int .i64 s1] 2))).trans ⟨hg2.os, hg2.tape, hg2.output, by have := (yy HB1).size; have := hg2.size; simp at this ⊢; omega, fun k hk' => hg2.block k (by have := (yy HB1).size; simp; omega) (fun e => by have := hrow k e.symm; omega)⟩
    have S5 := yz ((yy HSt).kept hB2)
    have G5 := yz (iA (yy HG) (ch (x := x) hB2))
    have I5 := yz (ym (ids := ids ++ [s1]) (by rw [List.length_append, List.length_singleton]; exact ho2) hlx)
    have E5 := yz (uK ho2)
    have M5 := yz (pu (yy HSM) (fun _ => (yy HS1).1))
    have C5 : Hid ((aQ (ids ++ [s1]) : Int) = (aQ ids : Int) + 1) := yz (by rw [je]; rw [if_pos (yy HS1).2]; omega)
    clear ho2 hg2 hrow hB2 HB1 O4 HC1 HSt HI HG hlx
    have cI := yz (fun (h1 : _) (h2 : _) => yy HIH (ids ++ [s1]) (eW (da L S) (L.map (·.1)) r ids s k) aw cw V2 (by rw [List.length_append, List.length_singleton]; omega) (yy M5) h1 h2 (yy E5) (yy I5) (yy S5))
    rw [yy C5, List.length_append, List.length_singleton] at cI
    go_wp2_with fail
    refine (yy cI (yy HMB k (by omega)) (yy HCB k (by omega))).mono ?_
    rintro e W6 ⟨⟨ve, rfl⟩, hS6, hG6⟩
    have S6 : Hid (ko W6 x L S (some ⟨b, o, none⟩) br cr dr (eW (da L S) (L.map (·.1)) r ids s (k + 1))) := yz (by rw [yy HR]; exact hS6)
    have G6 := yz (iA (yy G5) hG6)
    clear hS6 hG6 S5 G5 I5 E5 M5 C5 cI
    go_wp2_with fail
    go_roundw
    case rel => first | exact ⟨k + 1, by omega, by go_num, S6, G6⟩ | exact ⟨k + 1, by omega, by go_num, S6⟩ | exact ⟨.int .i64 ((k : Int) + 1), _, _, _, _, _, _, _, _, _, _, _, _, _, _, _, _, _, _, _, _, _, _, _, _, _, _, _, _, _, _, _, _, _, _, _, _, _, _, _, _, _, _, ⟨k + 1, by omega, by go_num, S6, G6⟩, rfl⟩
    case measure => simp [intOf]; omega
  ·obtain rfl : k = L.length := by omega
   clear h2 hf hs hd a1 a2
   have hlx : x < wr.heap.size := by obtain ⟨⟨_, hh, _⟩, _⟩ := yy HSt; exact hh.lt
   have HN := yz (iV wr wr.heap.size (Nat.le_refl _))
   have IA := yz ((yy HI).grown (ch (x := x) (an wr (.cells #[] 2))))
   go_wp2_with (at_builtin; (refine fQ _ rfl _ _ rfl wr.heap.size wr.heap.size rfl (yy HN) x ir er ids rfl (yy HE) (yy IA) hk6 ?d3 ?_))
   try case d3 => simp
   intro v1 V1 ho1 hg1
   obtain ⟨av, cv, rfl⟩ := fG ho1
   have HB1 : Hid (Below wr.heap.size wr V1) := yz ((an wr (.cells #[] 2)).trans ⟨hg1.os, hg1.tape, hg1.output, hg1.size, fun k hk' => hg1.block k (by simp; omega) (fun e => by have := Option.some.inj e; omega)⟩)
   have O4 := yz (CV ho1 (an V1 (.cells #[.int .i64 0] 2)))
   have HC1 : Hid ((V1.alloc (.cells #[.int .i64 0] 2)).cell? ⟨V1.heap.size, 0, none⟩ = some (.int .i64 0)) := yz (by simp)
   clear ho1 hg1 IA HN
   go_wp2_with (at_builtin; refine kg _ rfl _ _ rfl wr.heap.size (.slice av ids.length cv) ids rfl (yy O4) V1.heap.size 0 rfl (yy HC1) hk6 ?d4 ?_)
   try case d4 => have := (yy HB1).size; simp; omega
   intro v2 V2 ho2 hg2
   obtain ⟨aw, cw, rfl⟩ := fG ho2
   have hrow : ∀ g, Value.ownBlock (.slice av ids.length cv) = some g → wr.heap.size ≤ g := fun g e => Cj (yy O4) g e
   have hB2 : Below wr.heap.size wr V2 := (ak (yy HB1) (an V1 (.cells #[.int .i64 0] 2))).trans ⟨hg2.os, hg2.tape, hg2.output, by have := (yy HB1).size; have := hg2.size; simp at this ⊢; omega, fun k hk' => hg2.block k (by have := (yy HB1).size; simp; omega) (fun e => by have := hrow k e.symm; omega)⟩
   have S5 := yz ((yy HSt).kept hB2)
   have G5 := yz (iA (yy HG) (ch (x := x) hB2))
   have I5 := yz (ym (ids := ids ++ [0]) (by rw [List.length_append, List.length_singleton]; exact ho2) hlx)
   have E5 := yz (uK ho2)
   have M5 := yz (pu (yy HSM) (fun h => absurd rfl h))
   have C5 : Hid ((aQ (ids ++ [0]) : Int) = (aQ ids : Int)) := yz (by rw [je]; simp)
   clear ho2 hg2 hrow hB2 HB1 O4 HC1 HSt HI HG hlx
   have cI := yz (fun (h1 : _) (h2 : _) => yy HIH (ids ++ [0]) (eW (da L S) (L.map (·.1)) r ids s L.length) aw cw V2 (by rw [List.length_append, List.length_singleton]; omega) (yy M5) h1 h2 (yy E5) (yy I5) (yy S5))
   rw [yy C5, List.length_append, List.length_singleton] at cI
   go_wp2_with fail
   refine (yy cI (yy HMB _ (Nat.le_refl _)) (yy HCB _ (Nat.le_refl _))).mono ?_
   rintro e W6 ⟨⟨ve, rfl⟩, hS6, hG6⟩
   have S6 := yz hS6
   have G6 := yz (iA (yy G5) hG6)
   clear hS6 hG6 S5 G5 I5 E5 M5 C5 cI
   go_wp2_with fail
   go_end0
   refine ⟨⟨_, rfl⟩, ?_, yy G6⟩
   rw [yy HF, hAl]
   exact yy S6
end
section
open Go.RowKit Go.Sort
theorem ut (L : List St) (S : List D3) (ar br : Option Addr) (cr dr x : Nat) (hk : aV L = true) (hsp : aU S = true) (hdr : S.length ≤ dr) (hd9 : dr ≤ 9223372036854775807) : ∀ r, AR L S ar br cr dr x r
 | 0 => fun ids s ir er w hl hsm hm hc he hI hst => by
  by_cases hp : aQ ids + 0 < s.count
  ·exact pk L S ar br cr dr x 0 (bK hsp).1 ids s ir er w hl hc hst hp
  ·exact zO L S ar br cr dr x (bK hsp).1 ids s ir er w hl (by simpa using hm) hc he hI hst hp
 | r + 1 => fun ids s ir er w hl hsm hm hc he hI hst => by
  by_cases hp : aQ ids + (r + 1) < s.count
  ·exact pk L S ar br cr dr x (r + 1) (bK hsp).1 ids s ir er w hl hc hst hp
  ·exact zs L S ar br cr dr x r hk hsp hdr hd9 (ut L S ar br cr dr x hk hsp hdr hd9 r) ids s ir er w hl hsm hm hc he hI hst hp
def idR (L : List St) (S : List D3) : SeN := dY (da L S) (L.map (·.1)) S.length [] ⟨[], 3, 0⟩
def bV (L : List St) (S : List D3) : List Int := if (idR L S).many = 1 then (idR L S).best else []
def eK (L : List St) (S : List D3) : Int := if (idR L S).many = 1 then ((idR L S).count : Int) else 0
def bC (L : List St) (S : List D3) : Int := if (idR L S).many = 0 then 6 else if 1 < (idR L S).many then 11 else 0
def BB (w' : World) (B : Nat) (ids : List Int) (cnt code : Int) (e : Ending) : Prop := ∃ v, e = .returned (.agg #[v, .int .i64 cnt, .int .i64 code]) ∧ w'.ownsRow B 2 1 v ids.length (fd ids)
def IdO (w : World) (b : Nat) (v : Value) (c k : Int) : Prop := w.cell? ⟨b, 0, none⟩ = some v ∧ w.cell? ⟨b, 1, none⟩ = some (.int .i64 c) ∧ w.cell? ⟨b, 2, none⟩ = some (.int .i64 k)
theorem IdO.grown {w w' : World} {b : Nat} {v : Value} {c k : Int} {row : Option Nat} (h : IdO w b v c k) (hg : w.grownBy w' row) (hne : some b ≠ row) : IdO w' b v c k := ⟨dU h.1 hg hne, dU h.2.1 hg hne, dU h.2.2 hg hne⟩
theorem IdO.kept {w w' : World} {b : Nat} {v : Value} {c k : Int} (h : IdO w b v c k) (hB : Below w.heap.size w w') : IdO w' b v c k := ⟨bq h.1 hB, bq h.2.1 hB, bq h.2.2 hB⟩
theorem fK {w : World} {b : Nat} {v0 : Value} {c0 k0 : Int} (h : IdO w b v0 c0 k0) (v : Value) (c k : Int) : IdO (((w.setCell ⟨b, 0, none⟩ v).setCell ⟨b, 1, none⟩ (.int .i64 c)).setCell ⟨b, 2, none⟩ (.int .i64 k)) b v c k := by
 obtain ⟨h0, h1, h2⟩ := h
 refine ⟨?_, ?_, ?_⟩ <;> simp [go_sem, h0, h1, h2]
theorem tP (T : Array Value) (X : World) (b : Nat) (v : Value) (c k : Int) (hT : T.getD 4 undef = .pointer (some ⟨b, 0, none⟩)) (h : IdO X b v c k) : (results Tryz.f47 T).run Tryz.prog X = .ok (.agg #[v, .int .i64 c, .int .i64 k]) X := by
 obtain ⟨h0, h1, h2⟩ := h
 simp only [Array.getD_eq_getD_getElem?] at hT
 simp [results, Tryz.results47, go_sem, hT, h0, h1, h2]
theorem kQ {w : World} {B b n : Nat} {v : Value} {xs : List Value} (h : w.ownsRow B 2 1 v n xs) (hb : b < B) (o : Nat) (y : Value) : (w.setCell ⟨b, o, none⟩ y).ownsRow B 2 1 v n xs := by
 obtain ⟨h1, h2⟩ := h
 refine ⟨h1, ?_⟩
 rcases h2 with h2 | ⟨g, c', cur, e, hg, hh, r⟩
 ·exact .inl h2
 ·exact .inr ⟨g, c', cur, e, hg, by rw [Below.heap_setCell w ⟨b, o, none⟩ y g (by show g ≠ b; omega)]; exact hh, r⟩
theorem jK (L : List St) (S : List D3) (ar br : Option Addr) (cr dr : Nat) (w : World) (hk : aV L = true) (hsp : aU S = true) (hdr : S.length ≤ dr) (hd9 : dr ≤ 9223372036854775807) (hS : aR w ar L L.length) (hD : cf w br S S.length) (hA : ∀ y, ar = some y → y.block < w.heap.size) (hB : ∀ y, br = some y → y.block < w.heap.size) :
  Calls Tryz.prog 47 #[.slice ar L.length cr, .slice br S.length dr] w fun e w' => BB w' w.heap.size (bV L S) (eK L S) (bC L S) e ∧ Below w.heap.size w w' := by
 have B0 := aO w (.cells #[.slice none 0 0, .int .i64 0, .int .i64 0] 69) (.cells #[.slice ar L.length cr, .slice br S.length dr, .slice none 0 0, .int .i64 3, .int .i64 0] 125)
 have R0 : IdO ((w.alloc (.cells #[.slice none 0 0, .int .i64 0, .int .i64 0] 69)).alloc (.cells #[.slice ar L.length cr, .slice br S.length dr, .slice none 0 0, .int .i64 3, .int .i64 0] 125)) w.heap.size (.slice none 0 0) 0 0 := IdO.kept (w := w.alloc (.cells #[.slice none 0 0, .int .i64 0, .int .i64 0] 69)) (by refine ⟨?_, ?_, ?_⟩ <;> simp) (an _ _)
 have F0 : gE ((w.alloc (.cells #[.slice none 0 0, .int .i64 0, .int .i64 0] 69)).alloc (.cells #[.slice ar L.length cr, .slice br S.length dr, .slice none 0 0, .int .i64 3, .int .i64 0] 125)) w.heap.size := gE.kept (w := w.alloc (.cells #[.slice none 0 0, .int .i64 0, .int .i64 0] 69)) (fun i => by simp) (by simp) (an _ _)
 have St0 : ko ((w.alloc (.cells #[.slice none 0 0, .int .i64 0, .int .i64 0] 69)).alloc (.cells #[.slice ar L.length cr, .slice br S.length dr, .slice none 0 0, .int .i64 3, .int .i64 0] 125)) (w.heap.size + 1) L S ar br cr dr ⟨[], 3, 0⟩ := by
  refine ⟨⟨.slice none 0 0, ?_, World.ownsRow_nil _ _ _ _⟩, ?_, hS.kept B0, hD.kept B0, fun y e => by have := hA y e; omega, fun y e => by have := hB y e; omega⟩
  ·refine ⟨?_, ?_, ?_, ?_, ?_⟩ <;> simp
  ·intro i; simp
 have cM := yz (ut L S ar br cr dr (w.heap.size + 1) hk hsp hdr hd9 S.length [] ⟨[], 3, 0⟩ none 0 _ (by simp) (fun i hi => absurd hi (by simp)) (by have h6 := (bK hsp).1; have : 13 ^ S.length ≤ 13 ^ 6 := Nat.pow_le_pow_right (by decide) h6; simp only; omega) (by decide) (fun _ => rfl) (.inl ⟨rfl, rfl⟩) St0)
 have HB := yz B0
 have HR := yz R0
 have HF := yz F0
 have hsz : ((w.alloc (.cells #[.slice none 0 0, .int .i64 0, .int .i64 0] 69)).alloc (.cells #[.slice ar L.length cr, .slice br S.length dr, .slice none 0 0, .int .i64 3, .int .i64 0] 125)).heap.size = w.heap.size + 2 := by simp
 clear B0 R0 F0 St0 hS hD hA hB
 go_enter Tryz.func47, Tryz.ntmps47
 go_wp2_with fail
 generalize hW : (w.alloc (.cells #[.slice none 0 0, .int .i64 0, .int .i64 0] 69)).alloc (.cells #[.slice ar L.length cr, .slice br S.length dr, .slice none 0 0, .int .i64 3, .int .i64 0] 125) = W at *
 clear hW
 refine (yy cM).mono ?_
 rintro e w1 ⟨⟨ve, rfl⟩, hS1, hG1⟩
 have HI : Hid (dY (da L S) (L.map (·.1)) S.length [] ⟨[], 3, 0⟩ = idR L S) := yz rfl
 rw [yy HI] at hS1
 have B1 : Hid (Below w.heap.size w w1) := yz ((yy HB).trans ⟨hG1.os, hG1.tape, hG1.output, by have := hG1.size; omega, fun k hk' => hG1.block k (by omega) (fun e => by have := Option.some.inj e; omega)⟩)
 have R1 := yz ((yy HR).grown hG1 (fun e => by have := Option.some.inj e; omega))
 have F1 := yz ((yy HF).grown (by omega) hG1 (fun e => by have := Option.some.inj e; omega))
 obtain ⟨⟨vb, h1, h2⟩, hf, hs, hd, a1, a2⟩ := hS1
 have O1 := yz h2
 obtain ⟨av, cv, rfl⟩ := fG h2
 have H1 := yz h1
 clear hf hs hd a1 a2 h2 hG1 HB HR HF cM
 have hO1 : (idR L S).many = 0 → Hid (bV L S = [] ∧ eK L S = 0 ∧ bC L S = 6) := fun h => yz (by unfold bV eK bC; rw [if_neg (by omega), if_neg (by omega), if_pos h]; exact ⟨rfl, rfl, rfl⟩)
 have hO2 : 1 < (idR L S).many → Hid (bV L S = [] ∧ eK L S = 0 ∧ bC L S = 11) := fun h => yz (by unfold bV eK bC; rw [if_neg (by omega), if_neg (by omega), if_neg (by omega), if_pos h]; exact ⟨rfl, rfl, rfl⟩)
 have hO3 : (idR L S).many = 1 → Hid (bV L S = (idR L S).best ∧ eK L S = ((idR L S).count : Int) ∧ bC L S = 0) := fun h => yz (by unfold bV eK bC; rw [if_pos h, if_pos h, if_neg (by omega), if_neg (by omega)]; exact ⟨rfl, rfl, rfl⟩)
 generalize idR L S = s at *
 obtain ⟨bst, ct, mn⟩ := s
 dsimp only at h1 O1 hO1 hO2 hO3
 obtain ⟨c0, c1, c2, c3, c4⟩ := h1
 obtain ⟨r0, r1, r2⟩ := yy R1
 have f0 := yy F1 0
 have f1 := yy F1 1
 have f2 := yy F1 2
 by_cases m0 : mn = 0
 ·have HO := hO1 m0
  subst m0
  clear hO1 hO2 hO3
  go_wp2_with fail
  clear c0 c1 c2 c3 c4 r0 r1 r2 f0 f1 f2
  refine bodyPost_ret (v := .agg #[.slice none 0 0, .int .i64 0, .int .i64 6]) (tP _ _ w.heap.size _ 0 6 rfl (fK (yy R1) _ _ _)) rfl ⟨?_, ((((yy B1).setCell (Nat.le_refl _) _).setCell (Nat.le_refl _) _).setCell (Nat.le_refl _) _)⟩
  rw [(yy HO).1, (yy HO).2.1, (yy HO).2.2]
  exact ⟨_, rfl, World.ownsRow_nil _ _ _ _⟩
 by_cases m1 : 1 < mn
 ·have HO := hO2 m1
  have m0' : ¬ (mn : Int) = 0 := by omega
  have m1' : (1 : Int) < (mn : Int) := by omega
  clear hO1 hO2 hO3
  go_wp2_with fail
  clear c0 c1 c2 c3 c4 r0 r1 r2 f0 f1 f2
  refine bodyPost_ret (v := .agg #[.slice none 0 0, .int .i64 0, .int .i64 11]) (tP _ _ w.heap.size _ 0 11 rfl (fK (yy R1) _ _ _)) rfl ⟨?_, ((((yy B1).setCell (Nat.le_refl _) _).setCell (Nat.le_refl _) _).setCell (Nat.le_refl _) _)⟩
  rw [(yy HO).1, (yy HO).2.1, (yy HO).2.2]
  exact ⟨_, rfl, World.ownsRow_nil _ _ _ _⟩
 ·obtain rfl : mn = 1 := by omega
  have HO := hO3 rfl
  clear hO1 hO2 hO3 m0 m1
  go_wp2_with fail
  refine wp_region_held_drew (S := (fun w' => w'.cell? ⟨w.heap.size + 1, 2, none⟩ = some (.slice av bst.length cv) ∧ w'.cell? ⟨w.heap.size + 1, 3, none⟩ = some (.int .i64 (ct : Int)))) (by kernel_rfl) ?_ (fun hHeld => ?_)
  ·exact ⟨c2, c3⟩
  refine ac 0 rfl ?_
  try simp only [Act.put, ah, ai, aj]
  refine ac 1 rfl ?_
  try simp only [Act.put, ah, ai, aj]
  refine ac 2 rfl ?_
  try simp only [Act.put, ah, ai, aj]
  refine ac 3 rfl ?_
  try simp only [Act.put, ah, ai, aj]
  refine ac 4 rfl ?_
  try simp only [Act.put, ah, ai, aj]
  refine ac 5 rfl ?_
  try simp only [Act.put, ah, ai, aj]
  refine ac 6 rfl ?_
  try simp only [Act.put, ah, ai, aj]
  refine ac 7 rfl ?_
  try simp only [Act.put, ah, ai, aj]
  refine ac 8 rfl ?_
  try simp only [Act.put, ah, ai, aj]
  have R1d : IdO w1.drew w.heap.size (.slice none 0 0) 0 0 := yy R1
  have F1d : gE w1.drew w.heap.size := yy F1
  have B1d : Below w.heap.size w w1.drew := (yy B1).drew
  have O1d := CV (yy O1) (Below.refl w1.heap.size w1).drew
  have d2 : w1.drew.cell? ⟨w.heap.size + 1, 2, none⟩ = some (.slice av bst.length cv) := c2
  have d3 : w1.drew.cell? ⟨w.heap.size + 1, 3, none⟩ = some (.int .i64 (ct : Int)) := c3
  generalize hV : w1.drew = V at *
  clear hV c0 c1 c2 c3 c4 r0 r1 r2 f0 f1 f2
  obtain ⟨r0, r1, r2⟩ := R1d
  have f0 := F1d 0
  have f1 := F1d 1
  have f2 := F1d 2
  refine af 9 rfl fun K hK => ?_
  go_simp
  refine hK.out _ _ ?_ (fun hHeld1 => ?_)
  ·refine ⟨?_, ?_⟩
   ·rw [World.cell?_setCell_far _ _ _ _ (by show w.heap.size ≠ w.heap.size + 1; omega), World.cell?_setCell_far _ _ _ _ (by show w.heap.size ≠ w.heap.size + 1; omega), World.cell?_setCell_far _ _ _ _ (by show w.heap.size ≠ w.heap.size + 1; omega)]
    exact d2
   ·rw [World.cell?_setCell_far _ _ _ _ (by show w.heap.size ≠ w.heap.size + 1; omega), World.cell?_setCell_far _ _ _ _ (by show w.heap.size ≠ w.heap.size + 1; omega), World.cell?_setCell_far _ _ _ _ (by show w.heap.size ≠ w.heap.size + 1; omega)]
    exact d3
  clear hK K hHeld
  refine wpAnyH_done (by kernel_rfl) ?_ _
  clear hHeld1
  go_wp2_with fail
  refine bodyPost_ret (v := .agg #[.slice av bst.length cv, .int .i64 (ct : Int), .int .i64 0]) (tP _ _ w.heap.size _ (ct : Int) 0 rfl (fK ⟨r0, r1, r2⟩ _ _ _)) rfl ⟨?_, (((B1d.setCell (Nat.le_refl _) _).setCell (Nat.le_refl _) _).setCell (Nat.le_refl _) _)⟩
  rw [(yy HO).1, (yy HO).2.1, (yy HO).2.2]
  exact ⟨_, rfl, xC (kQ (kQ (kQ O1d (by omega) _ _) (by omega) _ _) (by omega) _ _) (by omega)⟩
end
section
open Go.RowKit Go.Sort
def kU (L : List St) (S : List D3) : Bool := aV L && aU S
def ba (L : List St) (S : List D3) : List Int := if 400 < L.length ∨ 400 < S.length then [] else if kU L S = true then bV L S else []
def dO (L : List St) (S : List D3) : Int := if 400 < L.length ∨ 400 < S.length then 0 else if kU L S = true then eK L S else 0
def bn (L : List St) (S : List D3) : Int := if 400 < L.length ∨ 400 < S.length then 2 else if kU L S = true then bC L S else 1
theorem nh {L : List St} {S : List D3} (h : 400 < L.length ∨ 400 < S.length) : ba L S = [] ∧ dO L S = 0 ∧ bn L S = 2 := by unfold ba dO bn; rw [if_pos h, if_pos h, if_pos h]; exact ⟨rfl, rfl, rfl⟩
theorem jT {L : List St} {S : List D3} (h : ¬ (400 < L.length ∨ 400 < S.length)) (h1 : kU L S = false) : ba L S = [] ∧ dO L S = 0 ∧ bn L S = 1 := by unfold ba dO bn; rw [if_neg h, if_neg h, if_neg h, h1]; exact ⟨rfl, rfl, rfl⟩
theorem ja {L : List St} {S : List D3} (h : ¬ (400 < L.length ∨ 400 < S.length)) (h1 : kU L S = true) : ba L S = bV L S ∧ dO L S = eK L S ∧ bn L S = bC L S := by unfold ba dO bn; rw [if_neg h, if_neg h, if_neg h, if_pos h1, if_pos h1, if_pos h1]; exact ⟨rfl, rfl, rfl⟩
theorem lw (T : Array Value) (X : World) (b : Nat) (v : Value) (c k : Int) (hT : T.getD 4 undef = .pointer (some ⟨b, 0, none⟩)) (h : IdO X b v c k) : (results Tryz.f23 T).run Tryz.prog X = .ok (.agg #[v, .int .i64 c, .int .i64 k]) X := by
 obtain ⟨h0, h1, h2⟩ := h
 simp only [Array.getD_eq_getD_getElem?] at hT
 simp [results, Tryz.results23, go_sem, hT, h0, h1, h2]
theorem ky {w' : World} {B : Nat} {L : List St} {S : List D3} {k : Int} (h : ba L S = [] ∧ dO L S = 0 ∧ bn L S = k) : BB w' B (ba L S) (dO L S) (bn L S) (.returned (.agg #[.slice none 0 0, .int .i64 0, .int .i64 k])) := by
 rw [h.1, h.2.1, h.2.2]
 exact ⟨_, rfl, World.ownsRow_nil _ _ _ _⟩
theorem nr (L : List St) (S : List D3) (ar br : Option Addr) (cr dr : Nat) (w : World) (hn : L.length ≤ 1048576) (hm : S.length ≤ 1048576) (hdr : S.length ≤ dr) (hd9 : dr ≤ 9223372036854775807) (hS : aR w ar L L.length) (hD : cf w br S S.length) (hA : ∀ y, ar = some y → y.block < w.heap.size) (hB : ∀ y, br = some y → y.block < w.heap.size) :
  Calls Tryz.prog 23 #[.slice ar L.length cr, .slice br S.length dr] w fun e w' => BB w' w.heap.size (ba L S) (dO L S) (bn L S) e ∧ Below w.heap.size w w' := by
 have B0 := an w (.cells #[.slice none 0 0, .int .i64 0, .int .i64 0] 69)
 by_cases hbig : 400 < L.length ∨ 400 < S.length
 ·have HO := yz (nh hbig)
  by_cases h4 : 400 < L.length
  ·have h4' : (400 : Int) < (L.length : Int) := by omega
   go_enter Tryz.func23, Tryz.ntmps23
   go_wp2
   exact bodyPost_ret (v := .agg #[.slice none 0 0, .int .i64 0, .int .i64 2]) (by simp [results, Tryz.results23, go_sem]) rfl ⟨ky (yy HO), an _ _⟩
  ·have h4' : ¬ (400 : Int) < (L.length : Int) := by omega
   have h5' : (400 : Int) < (S.length : Int) := by omega
   go_enter Tryz.func23, Tryz.ntmps23
   go_wp2
   exact bodyPost_ret (v := .agg #[.slice none 0 0, .int .i64 0, .int .i64 2]) (by simp [results, Tryz.results23, go_sem]) rfl ⟨ky (yy HO), an _ _⟩
 have h4' : ¬ (400 : Int) < (L.length : Int) := by omega
 have h5' : ¬ (400 : Int) < (S.length : Int) := by omega
 have R0 : IdO (w.alloc (.cells #[.slice none 0 0, .int .i64 0, .int .i64 0] 69)) w.heap.size (.slice none 0 0) 0 0 := by refine ⟨?_, ?_, ?_⟩ <;> simp
 have F0 : gE (w.alloc (.cells #[.slice none 0 0, .int .i64 0, .int .i64 0] 69)) w.heap.size := fun i => by simp
 have hsz : w.heap.size + 1 ≤ (w.alloc (.cells #[.slice none 0 0, .int .i64 0, .int .i64 0] 69)).heap.size := by simp
 have cS := yz (fun (W : World) h => iC L ar cr W hn h)
 have cD := yz (fun (W : World) h => ic S br dr W hm h)
 have HB := yz B0
 have HR := yz R0
 have HF := yz F0
 have HS := yz (hS.kept B0)
 have HD := yz (hD.kept B0)
 clear B0 R0 F0 hS hD
 go_enter Tryz.func23, Tryz.ntmps23
 go_wp2_with fail
 generalize hW : w.alloc (.cells #[.slice none 0 0, .int .i64 0, .int .i64 0] 69) = W at *
 clear hW
 refine (yy cS _ (yy HS)).mono ?_
 rintro e w1 ⟨rfl, hx⟩
 have B1 := yz (ak (yy HB) hx)
 have R1 := yz ((yy HR).kept hx)
 have F1 := yz ((yy HF).kept (by omega) hx)
 have S1 := yz ((yy HS).kept hx)
 have D1 := yz ((yy HD).kept hx)
 have hsz1 : w.heap.size + 1 ≤ w1.heap.size := Nat.le_trans hsz hx.size
 clear hx HB HR HF HS HD hsz cS
 cases hk : aV L
 ·have HO := yz (jT hbig (by unfold kU; rw [hk]; rfl))
  obtain ⟨r0, r1, r2⟩ := yy R1
  have f0 := yy F1 0
  have f1 := yy F1 1
  have f2 := yy F1 2
  go_wp2_with fail
  clear r0 r1 r2 f0 f1 f2
  exact bodyPost_ret (v := .agg #[.slice none 0 0, .int .i64 0, .int .i64 1]) (lw _ _ w.heap.size _ 0 1 rfl (fK (yy R1) _ _ _)) rfl ⟨ky (yy HO), ((((yy B1).setCell (Nat.le_refl _) _).setCell (Nat.le_refl _) _).setCell (Nat.le_refl _) _)⟩
 go_wp2_with fail
 refine (yy cD _ (yy D1)).mono ?_
 rintro e w2 ⟨rfl, hx⟩
 have B2 := yz (ak (yy B1) hx)
 have R2 := yz ((yy R1).kept hx)
 have F2 := yz ((yy F1).kept (by omega) hx)
 have S2 := yz ((yy S1).kept hx)
 have D2 := yz ((yy D1).kept hx)
 have hsz2 : w.heap.size + 1 ≤ w2.heap.size := Nat.le_trans hsz1 hx.size
 clear hx B1 R1 F1 S1 D1 hsz1 cD
 cases hp : aU S
 ·have HO := yz (jT hbig (by unfold kU; rw [hp, Bool.and_false]))
  obtain ⟨r0, r1, r2⟩ := yy R2
  have f0 := yy F2 0
  have f1 := yy F2 1
  have f2 := yy F2 2
  go_wp2_with fail
  clear r0 r1 r2 f0 f1 f2
  exact bodyPost_ret (v := .agg #[.slice none 0 0, .int .i64 0, .int .i64 1]) (lw _ _ w.heap.size _ 0 1 rfl (fK (yy R2) _ _ _)) rfl ⟨ky (yy HO), ((((yy B2).setCell (Nat.le_refl _) _).setCell (Nat.le_refl _) _).setCell (Nat.le_refl _) _)⟩
 have HO := yz (ja hbig (by unfold kU; rw [hk, hp]; rfl))
 have cI := yz (jK L S ar br cr dr w2 hk hp hdr hd9 (yy S2) (yy D2) (fun y e => by have := hA y e; omega) (fun y e => by have := hB y e; omega))
 clear hk hp
 go_wp2_with fail
 refine (yy cI).mono ?_
 rintro e w3 ⟨⟨v, rfl, ho⟩, hx⟩
 obtain ⟨av, cv, rfl⟩ := fG ho
 have B3 := yz (ak (yy B2) hx)
 have R3 := yz ((yy R2).kept hx)
 have F3 := yz ((yy F2).kept (by omega) hx)
 have O3 := yz ho
 clear hx ho B2 R2 F2 S2 D2 cI
 rw [← (yy HO).1] at O3
 rw [← (yy HO).1, ← (yy HO).2.1, ← (yy HO).2.2]
 obtain ⟨r0, r1, r2⟩ := yy R3
 have f0 := yy F3 0
 have f1 := yy F3 1
 have f2 := yy F3 2
 go_wp2_with fail
 clear r0 r1 r2 f0 f1 f2
 refine bodyPost_ret (v := .agg #[.slice av (ba L S).length cv, .int .i64 (dO L S), .int .i64 (bn L S)]) (lw _ _ w.heap.size _ (dO L S) (bn L S) rfl (fK (yy R3) _ _ _)) rfl ⟨⟨_, rfl, ?_⟩, ((((yy B3).setCell (Nat.le_refl _) _).setCell (Nat.le_refl _) _).setCell (Nat.le_refl _) _)⟩
 exact xC (kQ (kQ (kQ (yy O3) (by omega) _ _) (by omega) _ _) (by omega) _ _) (by omega)
def stV (s : St) : Value := .agg #[.int .i64 s.1, .int .i64 s.2.1, .int .i64 s.2.2.1, .int .i64 s.2.2.2]
def nV (s : St) : DataW Unit := .agg [.lit (.int .i64 s.1), .lit (.int .i64 s.2.1), .lit (.int .i64 s.2.2.1), .lit (.int .i64 s.2.2.2)]
def qx (v : Value) : Option (DataW Unit × List MemPlace) := match v with
 | .agg ⟨[.int .i64 a, .int .i64 b, .int .i64 c, .int .i64 d]⟩ => some (nV (a, b, c, d), [])
 | _ => none
theorem pZ (s : St) : qx (stV s) = some (nV s, []) := rfl
theorem rB {v : Value} {s : St} {ps : List MemPlace} (h : qx v = some (nV s, ps)) : v = stV s := by
 unfold qx at h
 split at h
 ·simp only [Option.some.injEq, Prod.mk.injEq, nV, DataW.agg.injEq, List.cons.injEq, DataW.lit.injEq, Lit.int.injEq, true_and, and_true] at h
  obtain ⟨⟨h1, h2, h3, h4⟩, _⟩ := h
  subst h1 h2 h3 h4
  rfl
 ·cases h
def pP : St := (0, 0, 0, 0)
def ef (L : List St) (ids : List Int) (i : Nat) : St := if ids.getD i 0 ≠ 0 then (ids.getD i 0, atV L L.length (ids.getD i 0)) else pP
def la (D : DataW Unit) (L : List St) (ids : List Int) : Prop := ∀ i : Nat, i < 7 → Maps.has D (.int .i64 (i : Int)) = decide (ids.getD i 0 ≠ 0) ∧ D.atKey (.int .i64 (i : Int)) (nV pP) = nV (ef L ids i)
def bF (w : World) (b n : Nat) (L : List St) (ids : List Int) : Prop := ∃ D, w.ownsMap Tryz.prog 3 qx b n D ∧ la D L ids
theorem DT (i : Nat) (h : i < 7) : (Lit.int .i64 (i : Int)).wf = true := by
 rcases (by omega : i = 0 ∨ i = 1 ∨ i = 2 ∨ i = 3 ∨ i = 4 ∨ i = 5 ∨ i = 6) with rfl | rfl | rfl | rfl | rfl | rfl | rfl <;> decide
theorem Dc (i : Nat) (h : i < 7) : keyOf Tryz.prog 3 (.int .i64 (i : Int)) = some (.int .i64 (i : Int)) := Maps.keyOf_int_mk Tryz.underlying3 (DT i h)
theorem vW (w : World) : (zeroValue 60).run Tryz.prog w = .ok (stV pP) w := by kernel_rfl
theorem bF.look {w : World} {b n : Nat} {L : List St} {ids : List Int} (h : bF w b n L ids) (i : Nat) (hi : i < 7) : (Instr.lookup 199 (.map (some b)) (.int .i64 (i : Int)) false).run Tryz.prog w = .ok (stV (ef L ids i)) w := by
 obtain ⟨D, hD, hM⟩ := h
 obtain ⟨v, ps, hr, hv⟩ := hD.lookup (Maps.int_keyed Tryz.underlying3) Tryz.underlying199 (vW w) (pZ pP) (Dc i hi)
 rw [(hM i hi).2] at hv
 rw [rB hv] at hr
 exact hr
theorem bF.lookOk {w : World} {b n : Nat} {L : List St} {ids : List Int} (h : bF w b n L ids) (i : Nat) (hi : i < 7) : (Instr.lookup 199 (.map (some b)) (.int .i64 (i : Int)) true).run Tryz.prog w = .ok (.tuple #[stV (ef L ids i), .bool (decide (ids.getD i 0 ≠ 0))]) w := by
 obtain ⟨D, hD, hM⟩ := h
 obtain ⟨v, ps, hr, hv⟩ := hD.look_ok (Maps.int_keyed Tryz.underlying3) Tryz.underlying199 (vW w) (pZ pP) (Dc i hi)
 rw [(hM i hi).2] at hv
 rw [rB hv, (hM i hi).1] at hr
 exact hr
theorem bF.kept {w w' : World} {b n : Nat} {L : List St} {ids : List Int} {row : Option Nat} (h : bF w b n L ids) (hg : w.grownBy w' row) (hne : some b ≠ row) : bF w' b n L ids := by
 obtain ⟨D, hD, hM⟩ := h
 exact ⟨D, hD.kept hg hne, hM⟩
end
end Go.Proofs.YtlleafjdgblhcaaGreatDoor
