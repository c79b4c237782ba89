/- Several texts in one: ModG, AppO. -/
import Derived.Test.YtgiodlllokdcdaaGreatDoorQFnFollowOwn10
namespace Go.Proofs.YtgiodlllokdcdaaGreatDoor
set_option linter.unusedVariables false
set_option linter.unusedSimpArgs false
set_option maxRecDepth 100000
set_option maxHeartbeats 8000000
section
open Go.RowKit Go.Sort
theorem fN (w : World) (B : Nat) (h : B ≤ w.heap.size) : (w.alloc (.cells #[] 80)).ownsRow B 80 4 (.slice (some ⟨w.heap.size, 0, none⟩) 0 0) 0 [] :=
 ⟨rfl, .inr ⟨_, 0, #[], rfl, h, Array.getElem?_push_size, Nat.le_refl _, Nat.zero_le _, rfl, rfl⟩⟩
theorem dV {L : List St} {u : Value} (h : u ∈ aV L) : u.oneCell' = true := by
 unfold aV at h
 rw [List.mem_flatMap] at h
 obtain ⟨s, _, hs⟩ := h
 simp [stC] at hs
 rcases hs with rfl | rfl | rfl | rfl <;> rfl
theorem kq {w : World} {b o : Nat} {L : List St} (h : aI w (some ⟨b, o, none⟩) L L.length) (j : Nat) (u : Value) (hj : (aV L)[j]? = some u) : w.cell? ((⟨b, o, none⟩ : Addr).add j) = some u := by
 have hlt : j < L.length * 4 := by
  have := (List.getElem?_eq_some_iff.1 hj).1
  rw [dD] at this
  exact this
 have hA : (⟨b, o, none⟩ : Addr).add j = ⟨b, o + j, none⟩ := by unfold Addr.add; split <;> simp_all
 rw [hA]
 rcases h with h | ⟨b', o', e, _, hc⟩
 ·omega
 ·simp only [Option.some.injEq, Addr.mk.injEq, and_true] at e
  obtain ⟨rfl, rfl⟩ := e
  obtain ⟨e0, e1, e2, e3⟩ := jB L (j / 4) (by omega)
  obtain ⟨c0, c1, c2, c3⟩ := hc (j / 4) (by omega)
  have h4 : j = j / 4 * 4 ∨ j = j / 4 * 4 + 1 ∨ j = j / 4 * 4 + 2 ∨ j = j / 4 * 4 + 3 := by omega
  rcases h4 with h4 | h4 | h4 | h4
  ·rw [h4, e0] at hj; rw [h4, c0]; exact hj
  ·rw [h4, e1] at hj; rw [h4, ← Nat.add_assoc, c1]; exact hj
  ·rw [h4, e2] at hj; rw [h4, ← Nat.add_assoc, c2]; exact hj
  ·rw [h4, e3] at hj; rw [h4, ← Nat.add_assoc, c3]; exact hj
def ay (w : World) (B : Nat) (L : List St) (a : Option Addr) (cap : Nat) : Prop := w.ownsRow B 80 4 (.slice a L.length cap) L.length (aV L)
theorem ay.stars {w : World} {B : Nat} {L : List St} {a : Option Addr} {cap : Nat} (h : ay w B L a cap) : aI w a L L.length := by
 obtain ⟨a', c', e, _, _, hs⟩ := jK h
 injection e with e1 e2 e3
 subst e1
 exact hs
theorem ay.row {w : World} {B : Nat} {L : List St} {a : Option Addr} {cap : Nat} (h : ay w B L a cap) : ∃ row, oZ w a L.length row ∧ ∀ g, row = some g → B ≤ g := uV h rfl
theorem ay.capMax {w : World} {B : Nat} {L : List St} {a : Option Addr} {cap : Nat} (h : ay w B L a cap) : L.length ≤ cap ∧ cap ≤ maxLen := by
 obtain ⟨a', c', e, h1, h2, _⟩ := jK h
 injection e with e1 e2 e3
 subst e3
 exact ⟨h1, h2⟩
theorem ay.kept {w w' : World} {B : Nat} {L : List St} {a : Option Addr} {cap : Nat} (h : ay w B L a cap) (hB : Below w.heap.size w w') : ay w' B L a cap := by
 obtain ⟨h1, h2⟩ := h
 refine ⟨h1, ?_⟩
 rcases h2 with h2 | ⟨g, c', cur, e, hg, hh, r⟩
 ·exact .inl h2
 ·exact .inr ⟨g, c', cur, e, hg, by rw [hB.block g (Array.getElem?_eq_some_iff.1 hh).1]; exact hh, r⟩
theorem ay.low {w : World} {B B' : Nat} {L : List St} {a : Option Addr} {cap : Nat} (h : ay w B L a cap) (hb : B' ≤ B) : ay w B' L a cap := by
 obtain ⟨h1, h2⟩ := h
 refine ⟨h1, ?_⟩
 rcases h2 with h2 | ⟨g, c', cur, e, hg, r⟩
 ·exact .inl h2
 ·exact .inr ⟨g, c', cur, e, by omega, r⟩
theorem gz {w : World} {B : Nat} {L : List St} {v : Value} (h : w.ownsRow B 80 4 v L.length (aV L)) : ∃ a cap, v = .slice a L.length cap ∧ ay w B L a cap := by
 obtain ⟨a, cap, e, _⟩ := jK h
 exact ⟨a, cap, e, by unfold ay; rw [← e]; exact h⟩
theorem eH.grown {w w' : World} {b : Nat} {row : Option Nat} (h : eH w b) (hb : b < w.heap.size) (hg : w.grownBy w' row) (hne : some b ≠ row) : eH w' b := fun i => by
 have h1 := h i
 unfold World.frozen? at h1 ⊢
 rw [hg.block b hb hne]
 exact h1
theorem ay.far {w : World} {B : Nat} {L : List St} {a : Option Addr} {cap : Nat} (h : ay w B L a cap) {b : Nat} (hne : b < B) (o : Nat) (x : Value) : ay (w.setCell ⟨b, o, none⟩ x) B L a cap := by
 obtain ⟨h1, h2⟩ := h
 refine ⟨h1, ?_⟩
 rcases h2 with h2 | ⟨g, c', cur, e, hg, hh, r⟩
 ·exact .inl h2
 ·exact .inr ⟨g, c', cur, e, hg, by rw [Below.heap_setCell w ⟨b, o, none⟩ x g (by show g ≠ b; omega)]; exact hh, r⟩
end
section
open Go.RowKit Go.Sort
theorem kD {P : Program} (w : World) (t ty e : TypeId) (i : TypeInfo) (ht : P.underlying t = some (.slice e)) (hi : P.info? e = some i) (a : Option Addr) (n cap c : Nat) (hc : n ≤ cap) :
  (Builtin.append_ #[t, t] ty #[.slice a n cap, .slice none 0 c]).run P w = .ok (.slice a n cap) w := by
 cases a <;> simp [Builtin.append_, run_underlying ht, sizeOf, typeInfo, hi, Builtin.lenOf, Builtin.firstCells, loadCells, storeCells, hc]
theorem gl {w : World} {B n m : Nat} {t : TypeId} {v : Value} {xs : List Value} (h : w.ownsRow B t m v n xs) : ∃ a cap, v = .slice a n cap ∧ n ≤ cap := by
 rcases h.2 with ⟨h1, h0⟩ | ⟨g, c', cur, e, _, _, h3, _⟩
 ·exact ⟨none, 0, by rw [h1, h0], by omega⟩
 ·exact ⟨_, _, e, h3⟩
theorem bF {P : Program} (w : World) {o : Oper} {a : Act} {K : Act → World → Prop} {Q : Exit → Act → World → Prop} (s x : Operand) (t : TypeId)
  (ho : o.op = .call { callee := .builtin .append, args := #[s, x], argTypes := #[t, t] })
  (base : Nat) (e : TypeId) (i : TypeInfo) (z : Value) (size bytes : Nat) (ht : P.underlying t = some (.slice e)) (hi : P.info? e = some i) (hz : i.zero = some z)
  (hsize : i.size = size) (hby : i.bytes = bytes) (hzs : z.cells.size = size) (hsz : 0 < size)
  (v : Value) (n : Nat) (xs : List Value) (hs : a.eval s = v) (hown : w.ownsRow base e size v n xs)
  (ao : Option Addr) (m c : Nat) (news : List Value) (hx : a.eval x = .slice ao m c) (hl : news.length = m * size) (h0 : ao = none → m = 0) (hnews : ∀ ad, ao = some ad → ∀ j u, news[j]? = some u → w.cell? (ad.add j) = some u) (h1 : ∀ u ∈ news, u.oneCell' = true)
  (h63 : n + m ≤ maxLen) (hbytes : (n + m) * bytes ≤ 140737488355328) (hbase : base ≤ w.heap.size)
  (h : ∀ v' w', w'.ownsRow base e size v' (n + m) (xs ++ news) → w.grownBy w' v.ownBlock → K (a.put o.dst v') w') : o.wp P a w K Q := by
 cases ao with
 | some ad => exact wp_append_own w s x t ho base e i z size bytes ht hi hz hsize hby hzs hsz v n xs hs hown ad m c news hx hl (hnews ad rfl) h1 h63 hbytes hbase fun v' w' h2 h3 _ => h v' w' h2 h3
 | none =>
  obtain rfl := h0 rfl
  obtain rfl : news = [] := List.eq_nil_of_length_eq_zero (by rw [hl]; omega)
  obtain ⟨a', cap, rfl, hc⟩ := gl hown
  have hr := kD (P := P) w t o.type e i ht hi a' n cap c hc
  unfold Oper.wp execOp
  simp only [ho, resolve, invoke, builtin, Sem.run_bind, Sem.run_pure, Result.andThen_ok, List.map_toArray, List.map_cons, List.map_nil, hs, hx, hr]
  exact h _ _ (by rw [List.append_nil]; exact hown) ⟨rfl, rfl, rfl, Nat.le_refl _, fun _ _ _ => rfl⟩
theorem iP {P : Program} {ops : Array Oper} {rest : List Oper} (w : World) {o : Oper} {a : Act} {Q : Exit → Act → World → Prop} (hgd : o.guard = none) (s x : Operand) (t : TypeId)
  (ho : o.op = .call { callee := .builtin .append, args := #[s, x], argTypes := #[t, t] })
  (base : Nat) (e : TypeId) (i : TypeInfo) (z : Value) (size bytes : Nat) (ht : P.underlying t = some (.slice e)) (hi : P.info? e = some i) (hz : i.zero = some z)
  (hsize : i.size = size) (hby : i.bytes = bytes) (hzs : z.cells.size = size) (hsz : 0 < size)
  (v : Value) (n : Nat) (xs : List Value) (hs : a.eval s = v) (hown : w.ownsRow base e size v n xs)
  (ao : Option Addr) (m c : Nat) (news : List Value) (hx : a.eval x = .slice ao m c) (hl : news.length = m * size) (h0 : ao = none → m = 0) (hnews : ∀ ad, ao = some ad → ∀ j u, news[j]? = some u → w.cell? (ad.add j) = some u) (h1 : ∀ u ∈ news, u.oneCell' = true)
  (h63 : n + m ≤ maxLen) (hbytes : (n + m) * bytes ≤ 140737488355328) (hbase : base ≤ w.heap.size)
  (h : ∀ v' w', w'.ownsRow base e size v' (n + m) (xs ++ news) → w.grownBy w' v.ownBlock → wpList P ops Q rest (a.put o.dst v') w') : wpList P ops Q (o :: rest) a w :=
 wpList_plain hgd fun _ hK => bF w s x t ho base e i z size bytes ht hi hz hsize hby hzs hsz v n xs hs hown ao m c news hx hl h0 hnews h1 h63 hbytes hbase fun v' w' h2 h3 => hK _ _ (h v' w' h2 h3)
theorem eu {w : World} {ao : Option Addr} {L : List St} (h : aI w ao L L.length) (ad : Addr) (he : ao = some ad) (j : Nat) (u : Value) (hj : (aV L)[j]? = some u) : w.cell? (ad.add j) = some u := by
 subst he
 rcases h with h0 | ⟨b, o, e, hb, hc⟩
 ·have := (List.getElem?_eq_some_iff.1 hj).1
  rw [dD] at this
  omega
 ·cases e
  exact kq (.inr ⟨b, o, rfl, hb, hc⟩) j u hj
theorem fg {w : World} {ao : Option Addr} {L : List St} (h : aI w ao L L.length) (he : ao = none) : L.length = 0 := by
 subst he
 rcases h with h0 | ⟨b, o, e, hb, hc⟩
 ·exact h0
 ·cases e
end
end Go.Proofs.YtgiodlllokdcdaaGreatDoor
