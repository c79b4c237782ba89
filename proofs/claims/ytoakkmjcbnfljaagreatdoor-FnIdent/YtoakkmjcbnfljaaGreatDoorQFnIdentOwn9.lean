/- Several texts in one: IeL, IeN, IeO, IeQ, IeR, IeS, IeT. -/
import Derived.BigRegionIn
import Derived.Test.YtoakkmjcbnfljaaGreatDoorQFnIdentOwn8
namespace Go.Proofs.YtoakkmjcbnfljaaGreatDoor
set_option linter.unusedVariables false
set_option linter.unusedSimpArgs false
set_option maxRecDepth 100000
set_option maxHeartbeats 8000000
section
open Go.RowKit Go.Sort
theorem nt {i j : Nat} (h : i ≠ j) : (Lit.int .i64 (i : Int)) ≠ Lit.int .i64 (j : Int) := fun e => h (by injection e with _ e; omega)
theorem fE (ids : List Int) (a : Int) {i : Nat} (h : i < ids.length) : (ids ++ [a]).getD i 0 = ids.getD i 0 := by rw [List.getD_eq_getElem?_getD, List.getD_eq_getElem?_getD, List.getElem?_append_left h]
theorem iL (ids : List Int) (a : Int) : (ids ++ [a]).getD ids.length 0 = a := by rw [List.getD_eq_getElem?_getD, List.getElem?_append_right (Nat.le_refl _), Nat.sub_self]; rfl
theorem fD (ids : List Int) (a : Int) {i : Nat} (h : ids.length < i) : (ids ++ [a]).getD i 0 = 0 := by
 rw [List.getD_eq_getElem?_getD, List.getElem?_append_right (by omega), List.getElem?_eq_none (by simp; omega)]
 rfl
theorem gc (ids : List Int) {i : Nat} (h : ids.length ≤ i) : ids.getD i 0 = 0 := by rw [List.getD_eq_getElem?_getD, List.getElem?_eq_none h]; rfl
theorem kV (ids : List Int) (i : Nat) : (ids ++ [(0 : Int)]).getD i 0 = ids.getD i 0 := by
 rcases Nat.lt_trichotomy i ids.length with h | h | h
 ·exact fE ids 0 h
 ·rw [h, iL, gc ids (Nat.le_refl _)]
 ·rw [fD ids 0 h, gc ids (by omega)]
theorem gZ.snoc0 {D : DataW Unit} {L : List St} {ids : List Int} (h : gZ D L ids) : gZ D L (ids ++ [0]) := fun i hi => by
 have h1 := h i hi
 unfold cJ at h1 ⊢
 rw [kV]
 exact h1
theorem gZ.put {D : DataW Unit} {L : List St} {ids : List Int} {a : Int} (h : gZ D L ids) (hm : Maps.IsMap D) (ha : a ≠ 0) : gZ (D.put (.int .i64 (ids.length : Int)) (jQ (a, atV L L.length a))) L (ids ++ [a]) := fun i hi => by
 by_cases e : i = ids.length
 ·subst e
  rw [Maps.has_put_same hm (by trivial), Maps.atKey_put_same hm (by trivial)]
  unfold cJ
  rw [iL, if_pos ha]
  exact ⟨by simp [ha], rfl⟩
 ·rw [Maps.has_put_other (nt e), Maps.atKey_put_other (nt e)]
  have h1 := h i hi
  unfold cJ at h1 ⊢
  have e2 : (ids ++ [a]).getD i 0 = ids.getD i 0 := by
   rcases Nat.lt_or_gt_of_ne e with h2 | h2
   ·exact fE ids a h2
   ·rw [fD ids a h2, gc ids (by omega)]
  rw [e2]
  exact h1
theorem gZ.del {D : DataW Unit} {L : List St} {ids : List Int} {a : Int} (h : gZ D L (ids ++ [a])) : gZ (D.del (.int .i64 (ids.length : Int))) L ids := fun i hi => by
 by_cases e : i = ids.length
 ·subst e
  rw [Maps.has_del_same, Maps.atKey_del_same]
  unfold cJ
  rw [gc ids (Nat.le_refl _), if_neg (by simp)]
  exact ⟨by simp, rfl⟩
 ·rw [Maps.has_del_other (nt e), Maps.atKey_del_other (nt e)]
  have h1 := h i hi
  unfold cJ at h1 ⊢
  have e2 : (ids ++ [a]).getD i 0 = ids.getD i 0 := by
   rcases Nat.lt_or_gt_of_ne e with h2 | h2
   ·exact fE ids a h2
   ·rw [fD ids a h2, gc ids (by omega)]
  rw [e2] at h1
  exact h1
def eT (F : List Int → Int → Bool) (A : List Int) (r : Nat) (ids : List Int) (i : Nat) : List (List Int) := ((A.take i).filter (F ids)).flatMap (fun a => cg F A r (ids ++ [a]))
theorem pO (F : List Int → Int → Bool) (A : List Int) (r : Nat) (ids : List Int) : eT F A r ids 0 = [] := rfl
theorem lk (F : List Int → Int → Bool) (A : List Int) (r : Nat) (ids : List Int) {i : Nat} (hi : i < A.length) : eT F A r ids (i + 1) = eT F A r ids i ++ if F ids (A.getD i 0) = true then cg F A r (ids ++ [A.getD i 0]) else [] := by
 unfold eT
 rw [List.take_succ_eq_append_getElem hi, List.filter_append, List.flatMap_append]
 have e : A.getD i 0 = A[i] := by rw [List.getD_eq_getElem?_getD, List.getElem?_eq_getElem hi]; rfl
 rw [e]
 congr 1
 cases h : F ids A[i] <;> simp [h]
theorem qN (F : List Int → Int → Bool) (A : List Int) (r : Nat) (ids : List Int) : cg F A (r + 1) ids = eT F A r ids A.length ++ cg F A r (ids ++ [0]) := by
 unfold eT
 rw [List.take_length]
 rfl
theorem rY (L : List St) (S : List D3) (ids : List Int) (a : Int) : bs L S ids a = cx (ap L S ids ids.length) (vA S ids.length, (a, atV L L.length a)) (ap L S ids ids.length).length := ng L S ids _ ids.length
end
section
open Go.RowKit Go.Sort Go.Shelf
attribute [local go_sem] Oper.semAt_some
structure KpM (b p q : Nat) (W W' : World) : Prop where
 size : W.heap.size ≤ W'.heap.size
 os : W'.os = W.os
 tape : W'.tape = W.tape
 output : W'.output = W.output
 same : ∀ k o, W.heap[k]? = some o → (o.isCells = true ∨ o.isWalk = true) → k ≠ b → k ≠ p → k ≠ q → W'.heap[k]? = some o
theorem KpM.trans {b p q : Nat} {A B C : World} (h : KpM b p q A B) (k : KpM b p q B C) : KpM b p q A C := ⟨Nat.le_trans h.size k.size, k.os.trans h.os, k.tape.trans h.tape, k.output.trans h.output, fun i o hi ho h0 h1 h2 => k.same i o (h.same i o hi ho h0 h1 h2) ho h0 h1 h2⟩
theorem KpX.toM {b p q : Nat} {A B : World} (h : KpX p q A B) : KpM b p q A B := ⟨h.size, h.os, h.tape, h.output, fun i o hi ho _ h1 h2 => h.same i o hi ho h1 h2⟩
theorem KpM.of_grown {b p q : Nat} {A B : World} (h : A.grownBy B (some b)) : KpM b p q A B := ⟨h.size, h.os, h.tape, h.output, fun i o hi _ h0 _ _ => by rw [h.block i (Array.getElem?_eq_some_iff.1 hi).1 (fun e => h0 (Option.some.inj e))]; exact hi⟩
theorem KpM.of_below {b p q : Nat} {A B : World} (h : Below A.heap.size A B) : KpM b p q A B := KpM.of_grown (bD h)
theorem KpM.cell {b p q : Nat} {A B : World} (h : KpM b p q A B) {a : Addr} {v : Value} (hc : A.cell? a = some v) (h0 : a.block ≠ b) (h1 : a.block ≠ p) (h2 : a.block ≠ q) : B.cell? a = some v := by
 obtain ⟨o, ho, hi⟩ := cells_of_cell hc
 have e := h.same a.block o ho (.inl hi) h0 h1 h2
 rw [← hc]
 exact World.cell?_of_block (e.trans ho.symm)
def fR (a : Option Addr) (b p q : Nat) : Prop := ∀ y, a = some y → y.block ≠ b ∧ y.block ≠ p ∧ y.block ≠ q
theorem sP {b p q : Nat} {w w' : World} {a : Option Addr} {L : List St} {n : Nat} (h : aJ w a L n) (hg : KpM b p q w w') (hne : fR a b p q) : aJ w' a L n := by
 rcases h with h | ⟨c, o, rfl, hb, hc⟩
 ·exact .inl h
 ·obtain ⟨n0, n1, n2⟩ := hne _ rfl
  refine .inr ⟨c, o, rfl, Nat.lt_of_lt_of_le hb hg.size, fun i hi => ?_⟩
  obtain ⟨c0, c1, c2, c3⟩ := hc i hi
  exact ⟨hg.cell c0 n0 n1 n2, hg.cell c1 n0 n1 n2, hg.cell c2 n0 n1 n2, hg.cell c3 n0 n1 n2⟩
theorem tO {b p q : Nat} {w w' : World} {a : Option Addr} {L : List D3} {n : Nat} (h : bi w a L n) (hg : KpM b p q w w') (hne : fR a b p q) : bi w' a L n := by
 rcases h with h | ⟨c, o, rfl, hb, hc⟩
 ·exact .inl h
 ·obtain ⟨n0, n1, n2⟩ := hne _ rfl
  refine .inr ⟨c, o, rfl, Nat.lt_of_lt_of_le hb hg.size, fun i hi => ?_⟩
  obtain ⟨c0, c1, c2⟩ := hc i hi
  exact ⟨hg.cell c0 n0 n1 n2, hg.cell c1 n0 n1 n2, hg.cell c2 n0 n1 n2⟩
theorem tF {b p q : Nat} {w w' : World} {a : Option Addr} {A : List Sg} {n : Nat} (h : dv w a A n) (hg : KpM b p q w w') (hne : fR a b p q) : dv w' a A n := by
 rcases h with h | ⟨c, o, rfl, hb, hc⟩
 ·exact .inl h
 ·obtain ⟨n0, n1, n2⟩ := hne _ rfl
  refine .inr ⟨c, o, rfl, Nat.lt_of_lt_of_le hb hg.size, fun i hi => ?_⟩
  obtain ⟨c0, c1, c2, c3, c4, c5, c6⟩ := hc i hi
  exact ⟨hg.cell c0 n0 n1 n2, hg.cell c1 n0 n1 n2, hg.cell c2 n0 n1 n2, hg.cell c3 n0 n1 n2, hg.cell c4 n0 n1 n2, hg.cell c5 n0 n1 n2, hg.cell c6 n0 n1 n2⟩
theorem be.isMap {w : World} {b n : Nat} {L : List St} {ids : List Int} (h : be w b n L ids) : ∃ es c, w.heap[b]? = some (.map es c) := by
 obtain ⟨D, ⟨es, c, hh, _⟩, _⟩ := h
 exact ⟨es, c, hh⟩
def JAb (b : Nat) (J : List (List Int) → World → Prop) : Prop := ∀ pre W W', J pre W → (∃ es c, W.heap[b]? = some (.map es c)) → W.grownBy W' (some b) → J pre W'
def sW (L : List St) (S : List D3) (ar br : Option Addr) (cr dr b l p q : Nat) (J : List (List Int) → World → Prop) (r : Nat) : Prop := ∀ (ids : List Int) (pre : List (List Int)) (N n : Nat) (w : World), ids.length + r = S.length → N + 13 ^ r ≤ 100000000 → be w b N L ids → aJ w ar L L.length → bi w br S S.length → p < w.heap.size → q < w.heap.size → J pre w →
  CallsIn Fence.wide n Tryz.prog 64 #[.agg #[.slice ar L.length cr, .slice br S.length dr, .map (some b)], .int .i64 (ids.length : Int), .func (.yield l) #[] #[]] w fun e W' => e = .returned (.bool true) ∧ J (pre ++ cg (bs L S) (L.map (·.1)) r ids) W' ∧ be W' b (N + (13 ^ r - 1)) L ids ∧ KpM b p q w W'
theorem re (L : List St) (S : List D3) (ar br : Option Addr) (cr dr b l p q : Nat) (J : List (List Int) → World → Prop) (hm : S.length ≤ 6) (hJ : JAb b J) (hY : km l p q J) (hbp : b ≠ p) (hbq : b ≠ q) : sW L S ar br cr dr b l p q J 0 := fun ids pre N n w hl hN13 hN hS hD hp hq hj => by
 refine (qZ L S ids ar br cr dr b N l p q n (fun pre' W => J pre' W ∧ ∃ es c, W.heap[b]? = some (.map es c)) pre w hm (by omega) hN ⟨hj, hN.isMap⟩ (fun W W' h hB => ?_) (fun m pre' x W h1 hq0 h2 h3 => ?_)).mono fun e W' h => ⟨h.1, h.2.1.1, ?_, h.2.2.toM⟩
 ·obtain ⟨es, c, hh⟩ := h.2
  exact ⟨hJ _ _ _ h.1 h.2 (bD hB), es, c, by rw [hB.block b (Array.getElem?_eq_some_iff.1 hh).1]; exact hh⟩
 ·obtain ⟨fn, tmps, assign, body, hy, hR⟩ := hY m pre' x W h1.1 (hq0.elim fun W0 h => ⟨W0, h.1.1, h.2⟩) h2 h3
  refine ⟨fn, tmps, assign, body, hy, hR.mono fun e W' h => ⟨h.1, ⟨h.2.1, ?_⟩, h.2.2⟩⟩
  obtain ⟨es, c, hh⟩ := h1.2
  exact ⟨es, c, h.2.2.same b _ hh (.inr rfl) hbp hbq⟩
 ·obtain ⟨D, ⟨es, c, hh, rest⟩, hM⟩ := hN
  exact ⟨D, (show W'.ownsMap Tryz.prog 3 lG b N D from ⟨es, c, h.2.2.same b _ hh (.inr rfl) hbp hbq, rest⟩).mono (by omega), hM⟩
attribute [local go_sem] Oper.semAt_some
theorem kA.keptM {b p q : Nat} {w w' : World} {c : Nat} {v0 v1 v2 : Value} (h : kA w c v0 v1 v2) (hg : KpM b p q w w') (n0 : c ≠ b) (n1 : c ≠ p) (n2 : c ≠ q) : kA w' c v0 v1 v2 := ⟨hg.cell h.1 n0 n1 n2, hg.cell h.2.1 n0 n1 n2, hg.cell h.2.2 n0 n1 n2⟩
theorem rd (L : List St) (S : List D3) (ar br : Option Addr) (cr dr b l p q r : Nat) (J : List (List Int) → World → Prop) (hk : aL L = true) (hm : S.length ≤ 6) (hJ : JAb b J) (hbp : b ≠ p) (hbq : b ≠ q) (hA : fR ar b p q) (hB : fR br b p q) (ih : sW L S ar br cr dr b l p q J r) : sW L S ar br cr dr b l p q J (r + 1) := fun ids pre N n w hl hN13 hN hS hD hp hq hj => by
 have hn12 : L.length ≤ 12 := (bm hk).1
 have B0 := ak w (.cells #[.slice ar L.length cr, .slice br S.length dr, .map (some b)] 100)
 have C0 : kA (w.alloc (.cells #[.slice ar L.length cr, .slice br S.length dr, .map (some b)] 100)) w.heap.size (.slice ar L.length cr) (.slice br S.length dr) (.map (some b)) := by refine ⟨?_, ?_, ?_⟩ <;> simp
 have hbl : b < w.heap.size := by obtain ⟨D, hD, _⟩ := hN; exact hD.lt
 have cA := yz (fun (k : Nat) => (callsIn_wide (n := k)).2 (qM L S ids ids.length ar br L.length cr dr b N _ hm (by omega) (hD.kept B0) (hN.below B0)))
 have HN := yz (hN.below B0)
 have HS := yz (hS.kept B0)
 have HD := yz (hD.kept B0)
 have HJ0 := yz (hJ _ _ _ hj hN.isMap (bD B0))
 have HC := yz C0
 have HB0 := yz B0
 have HIH := yz ih
 have HJA := yz hJ
 have hne : ¬ (ids.length : Int) = (S.length : Int) := by omega
 have e16 : ((ids.length : Int) == (S.length : Int)) = false := by rw [beq_eq_false_iff_ne]; exact hne
 have hsz : (w.alloc (.cells #[.slice ar L.length cr, .slice br S.length dr, .map (some b)] 100)).heap.size = w.heap.size + 1 := by simp
 clear B0 C0 hN hS hD hj ih hJ
 refine callsIn_of_wp Tryz.func64 rfl trivial ?_ rfl
 simp only [Tryz.ntmps64, List.size_toArray, List.length_cons, List.length_nil, Nat.reduceAdd, Nat.reduceSub, Array.replicate_succ, Array.replicate_zero, List.push_toArray, List.append_toArray, List.nil_append, List.cons_append]
 gi_wp2
 refine ⟨trivial, fun h => (by cases h), ?_⟩
 generalize hW : w.alloc (.cells #[.slice ar L.length cr, .slice br S.length dr, .map (some b)] 100) = W at *
 clear hW
 refine (yy cA _).mono ?_
 rintro e w1 ⟨⟨v, rfl, ho⟩, hx⟩
 obtain ⟨av, cv, rfl⟩ := dQ ho
 have HSi := yz (iA ho)
 have hcv := iQ ho (by decide)
 have hcm := lj ho
 have hm9 : maxLen ≤ 9223372036854775807 := by decide +kernel
 have hna := eU L S ids ids.length
 have HAp : Hid (fR av b p q) := yz (fun y e => by
  rcases ho.2 with ⟨h1, _⟩ | ⟨g, c', cur, e', hb', _⟩
  ·injection h1 with h1; rw [h1] at e; cases e
  ·injection e' with e1; rw [e1] at e; cases e; exact ⟨by show g ≠ b; omega, by show g ≠ p; omega, by show g ≠ q; omega⟩)
 have N1 := yz ((yy HN).below hx)
 have S1 := yz ((yy HS).kept hx)
 have D1 := yz ((yy HD).kept hx)
 have J1 := yz (yy HJA _ _ _ (yy HJ0) (yy HN).isMap (bD hx))
 have C1 := yz ((yy HC).kept hx)
 have HK0 := yz (KpM.of_below (b := b) (p := p) (q := q) (aj (yy HB0) hx))
 have hw1 : w.heap.size + 1 ≤ w1.heap.size := by have := hx.size; omega
 have HFE := yz (rY L S ids)
 generalize hsa : ap L S ids ids.length = SA at *
 clear ho hx HN HS HD HJ0 HC HB0 cA hsz hsa
 obtain ⟨c0, c1, c2⟩ := yy C1
 gi_wp2
 clear c0 c1 c2
 gi_loopw [27] (fun i wr => ∃ k : Nat, k ≤ L.length ∧ i = .int .i64 k ∧ Hid (J (pre ++ eT (bs L S) (L.map (·.1)) r ids k) wr) ∧ Hid (be wr b (N + k * 13 ^ r) L ids) ∧ Hid (KpM b p q w1 wr)) (fun i _ => L.length - (intOf i).toNat)
 case atStart => exact ⟨0, Nat.zero_le _, rfl, yz (by rw [pO, List.append_nil]; exact yy J1), yz (by rw [Nat.zero_mul]; exact yy N1), yz ⟨Nat.le_refl _, rfl, rfl, rfl, fun _ _ h _ _ _ _ => h⟩⟩
 case round =>
  clear J1 N1
  obtain ⟨k, hkl, rfl, HJr, HNr, HKr⟩ := hrel
  have Sr := yz (sP (yy S1) (yy HKr) hA)
  have Dr := yz (tO (yy D1) (yy HKr) hB)
  have Cr := yz ((yy C1).keptM (yy HKr) (by omega) (by omega) (by omega))
  have Ar := yz (tF (yy HSi) (yy HKr) (yy HAp))
  have hwr : w.heap.size + 1 ≤ wr.heap.size := Nat.le_trans hw1 (yy HKr).size
  obtain ⟨c0, c1, c2⟩ := yy Cr
  by_cases hkn : k < L.length
  ·obtain ⟨⟨s1, s2, s3, s4⟩, hst⟩ : ∃ z, stA L k = z := ⟨_, rfl⟩
   have hsm1 := lI hk hkn
   have hat := jh hk hkn
   have HMA : Hid ((L.map (·.1)).getD k 0 = s1) := yz (by rw [ss hkn, hst])
   rw [hst] at hsm1 hat
   have HAT := yz hat
   have HS1 := yz hsm1.2
   have hkn2 : (k : Int) < (L.length : Int) := by omega
   rcases yy Sr with h0 | ⟨sb, so, rfl, hsb, hcs⟩
   ·omega
   have hstar := hcs k hkn
   rw [hst] at hstar
   obtain ⟨d0, d1, d2, d3⟩ := hstar
   clear hsm1 hat hst hcs
   rcases yy Dr with h0 | ⟨db, do', rfl, hdb, hcd⟩
   ·omega
   obtain ⟨⟨v1, v2, v3⟩, hv⟩ : ∃ z, vA S ids.length = z := ⟨_, rfl⟩
   have hdir := hcd ids.length (by omega)
   rw [hv] at hdir
   have HV := yz hv
   obtain ⟨g0, g1, g2⟩ := hdir
   dsimp only at d0 d1 d2 d3 g0 g1 g2
   clear hcd hv
   have hpl : (ids.length : Int) < (S.length : Int) := by omega
   have Z2 := ak wr (.cells #[.int .i64 s1, .int .i64 s2, .int .i64 s3, .int .i64 s4] 69)
   have E2 := yz (ea wr (s1, s2, s3, s4) 69)
   have HB2 := yz Z2
   have y1 := aZ c1 Z2
   have y2 := aZ c2 Z2
   have z0 := aZ g0 Z2
   have z1 := aZ g1 Z2
   have z2 := aZ g2 Z2
   clear Z2
   gi_wp2
   clear c0 c1 c2 d0 d1 d2 d3 g0 g1 g2
   generalize hW2 : wr.alloc (.cells #[.int .i64 s1, .int .i64 s2, .int .i64 s3, .int .i64 s4] 69) = W2 at *
   clear hW2
   obtain ⟨e0, e1, e2, e3⟩ := yy E2
   simp only [Nat.zero_add] at e0 e1 e2 e3
   have y1' := fun o => aZ y1 (ak W2 o)
   have z0' := fun o => aZ z0 (ak W2 o)
   have z1' := fun o => aZ z1 (ak W2 o)
   have z2' := fun o => aZ z2 (ak W2 o)
   have e0' := fun o => aZ e0 (ak W2 o)
   have e1' := fun o => aZ e1 (ak W2 o)
   have e2' := fun o => aZ e2 (ak W2 o)
   have e3' := fun o => aZ e3 (ak W2 o)
   gi_region
   have Z3 := (ak W2 (.cells #[.int .i64 v1, .int .i64 v2, .int .i64 v3, .int .i64 s1, .int .i64 s2, .int .i64 s3, .int .i64 s4] 71))
   have Y3 : Below W2.heap.size W2 (W2.alloc (.cells #[.int .i64 v1, .int .i64 v2, .int .i64 v3, .int .i64 s1, .int .i64 s2, .int .i64 s3, .int .i64 s4] 71)).drew := Z3.drew
   have P3 : Hid (kz (W2.alloc (.cells #[.int .i64 v1, .int .i64 v2, .int .i64 v3, .int .i64 s1, .int .i64 s2, .int .i64 s3, .int .i64 s4] 71)).drew W2.heap.size 0 ((v1, v2, v3), (s1, s2, s3, s4))) := yz (dR W2 ((v1, v2, v3), (s1, s2, s3, s4)) 71)
   have E3 := yz ((yy E2).kept (World.block_lt_of_cell? W2 _ e0) Y3)
   have HB3 := yz (aj (yy HB2) Y3)
   generalize hW3 : (W2.alloc (.cells #[.int .i64 v1, .int .i64 v2, .int .i64 v3, .int .i64 s1, .int .i64 s2, .int .i64 s3, .int .i64 s4] 71)).drew = W3 at *
   clear hW3 Z3 Y3 y1 y2 z0 z1 z2 e0 e1 e2 e3 y1' z0' z1' z2' e0' e1' e2' e3' E2 HB2
   have J3 := yz (yy HJA _ _ _ (yy HJr) (yy HNr).isMap (bD (yy HB3)))
   have N3 := yz ((yy HNr).below (yy HB3))
   have K3 := yz ((yy HKr).trans (KpM.of_below (b := b) (p := p) (q := q) (yy HB3)))
   have A3 := yz ((yy Ar).kept (yy HB3))
   have C3 := yz ((yy Cr).kept (yy HB3))
   have hw3 : w.heap.size + 1 ≤ W3.heap.size := Nat.le_trans hwr (yy HB3).size
   generalize W2.heap.size = nb at *
   obtain ⟨n0, n1, n2, n3, n4, n5, n6⟩ := yy P3
   simp only [Nat.zero_add] at n0 n1 n2 n3 n4 n5 n6
   have cF := yz (fun (j : Nat) => (callsIn_wide (n := j)).2 (fY SA SA.length ((v1, v2, v3), (s1, s2, s3, s4)) av cv W3 (by omega) hcv (by omega) (yy A3)))
   have HFV : Hid (cx SA ((v1, v2, v3), (s1, s2, s3, s4)) SA.length = bs L S ids s1) := yz (by rw [yy HFE s1, yy HV, yy HAT])
   rw [yy HFV] at cF
   unfold sgV at cF
   dsimp only at cF
   gi_wp2
   refine ⟨trivial, fun h => (by cases h), ?_⟩
   refine (yy cF _).mono ?_
   rintro e W4 ⟨rfl, hx⟩
   have J4 := yz (yy HJA _ _ _ (yy J3) (yy N3).isMap (bD hx))
   have N4 := yz ((yy N3).below hx)
   have K4 := yz ((yy K3).trans (KpM.of_below (b := b) (p := p) (q := q) hx))
   have C4 := yz ((yy C3).kept hx)
   have E4 := yz ((yy E3).kept (World.block_lt_of_cell? W3 _ (yy E3).1) hx)
   have hw4 : w.heap.size + 1 ≤ W4.heap.size := Nat.le_trans hw3 hx.size
   clear hx n0 n1 n2 n3 n4 n5 n6 J3 N3 K3 C3 E3 A3 cF P3 HJr HNr HKr Cr Ar Sr Dr HB3
   cases hfit : bs L S ids s1
   ·have HR : Hid (eT (bs L S) (L.map (·.1)) r ids (k + 1) = eT (bs L S) (L.map (·.1)) r ids k) := yz (by rw [lk _ _ _ _ (by rw [List.length_map]; exact hkn), yy HMA, hfit]; simp)
    have J5 : Hid (J (pre ++ eT (bs L S) (L.map (·.1)) r ids (k + 1)) W4) := yz (by rw [yy HR]; exact yy J4)
    have N5 : Hid (be W4 b (N + (k + 1) * 13 ^ r) L ids) := yz (by obtain ⟨D, h1, h2⟩ := yy N4; exact ⟨D, h1.mono (Nat.add_le_add_left (Nat.mul_le_mul_right _ (Nat.le_succ k)) _), h2⟩)
    gi_wp2
    go_roundw
    case rel => first | exact ⟨k + 1, by omega, by go_num, J5, N5, K4⟩ | trace_state
    case measure => simp [intOf]; omega
   ·have HR : Hid (eT (bs L S) (L.map (·.1)) r ids (k + 1) = eT (bs L S) (L.map (·.1)) r ids k ++ cg (bs L S) (L.map (·.1)) r (ids ++ [s1])) := yz (by rw [lk _ _ _ _ (by rw [List.length_map]; exact hkn), yy HMA, hfit]; rfl)
    obtain ⟨c0, c1, c2⟩ := yy C4
    obtain ⟨e0, e1, e2, e3⟩ := yy E4
    simp only [Nat.zero_add] at e0 e1 e2 e3
    obtain ⟨D, hown, hM⟩ := yy N4
    have hNb : N + k * 13 ^ r < maxLen := by
     have h1 : k * 13 ^ r ≤ 12 * 13 ^ r := Nat.mul_le_mul_right _ (by omega)
     have h2 : 100000000 ≤ maxLen := by decide +kernel
     rw [Nat.pow_succ] at hN13
     have h3 : 0 < 13 ^ r := Nat.pow_pos (by decide)
     generalize 13 ^ r = c at *
     generalize k * c = kc at *
     omega
    gi_wp2_with (gi_at_mapUpdate; refine wpListIn_mapUpdate_own _ rfl _ _ _ 98 rfl 3 69 (Maps.int_keyed Tryz.underlying3) Tryz.underlying98 lG b (N + k * 13 ^ r) D rfl hown hNb _ _ (.int .i64 (ids.length : Int)) rfl rfl (tp ids.length (by omega)) (jQ (s1, s2, s3, s4)) [] (lH (s1, s2, s3, s4)) ?_; intro W5 hown5 hg5; have HU5 := yz hown5; have HG5 := yz hg5; clear hown5 hg5; have C5 := yz ((yy C4).keptM (KpM.of_grown (b := b) (p := p) (q := q) (yy HG5)) (by omega) (by omega) (by omega)); obtain ⟨x0, x1, x2⟩ := yy C5)
    have J5 := yz (yy HJA _ _ _ (yy J4) (yy N4).isMap (yy HG5))
    have K5 := yz ((yy K4).trans (KpM.of_grown (b := b) (p := p) (q := q) (yy HG5)))
    have N5 : Hid (be W5 b (N + k * 13 ^ r + 1) L (ids ++ [s1])) := yz ⟨_, yy HU5, by
     have h1 := hM.put (a := s1) hown.isMap (yy HS1)
     rw [yy HAT] at h1
     exact h1⟩
    have S5 := yz (sP (yy S1) (yy K5) hA)
    have D5 := yz (tO (yy D1) (yy K5) hB)
    have hw5 : w.heap.size + 1 ≤ W5.heap.size := Nat.le_trans hw4 (yy HG5).size
    have HLN : Hid (((ids ++ [s1]).length : Int) = (ids.length : Int) + 1) := yz (by simp)
    have cI := yz (fun (j : Nat) => yy HIH (ids ++ [s1]) (pre ++ eT (bs L S) (L.map (·.1)) r ids k) (N + k * 13 ^ r + 1) j W5 (by rw [List.length_append, List.length_singleton]; omega) (by
     have h1 : k * 13 ^ r ≤ 11 * 13 ^ r := Nat.mul_le_mul_right _ (by omega)
     rw [Nat.pow_succ] at hN13
     have h3 : 0 < 13 ^ r := Nat.pow_pos (by decide)
     generalize 13 ^ r = c at *
     generalize k * c = kc at *
     omega) (yy N5) (yy S5) (yy D5) (by omega) (by omega) (yy J5))
    rw [yy HLN] at cI
    clear c0 c1 c2 e0 e1 e2 e3 J4 N4 K4 C4 E4 HU5 hown hM HG5 J5 N5 S5 D5
    refine ⟨trivial, fun h => (by cases h), ?_⟩
    refine (yy cI _).mono ?_
    rintro e W6 ⟨rfl, hJ6, hN6, hK6⟩
    have J6 := yz hJ6
    have K6 := yz ((yy K5).trans hK6)
    have C6 := yz ((yy C5).keptM hK6 (by omega) (by omega) (by omega))
    have N6 := yz hN6
    have hw6 : w.heap.size + 1 ≤ W6.heap.size := Nat.le_trans hw5 hK6.size
    clear x0 x1 x2 hJ6 hN6 hK6 K5 C5 cI
    obtain ⟨x0, x1, x2⟩ := yy C6
    obtain ⟨D6, hown6, hM6⟩ := yy N6
    gi_wp2_with (gi_at_delete; refine wpListIn_delete_own _ rfl _ _ 98 3 rfl 69 (Maps.int_keyed Tryz.underlying3) Tryz.underlying98 lG b _ D6 rfl hown6 _ (.int .i64 (ids.length : Int)) rfl (tp ids.length (by omega)) ?_; intro W7 hown7 ht7; have HU7 := yz hown7; have HG7 := yz ht7.grown; clear hown7 ht7)
    have J7 : Hid (J (pre ++ eT (bs L S) (L.map (·.1)) r ids (k + 1)) W7) := yz (by rw [yy HR, ← List.append_assoc]; exact yy HJA _ _ _ (yy J6) (yy N6).isMap (yy HG7))
    have K7 := yz ((yy K6).trans (KpM.of_grown (b := b) (p := p) (q := q) (yy HG7)))
    have N7 : Hid (be W7 b (N + (k + 1) * 13 ^ r) L ids) := yz ⟨_, (yy HU7).mono (by
     have h3 : 0 < 13 ^ r := Nat.pow_pos (by decide)
     rw [Nat.succ_mul]
     generalize 13 ^ r = c at *
     generalize k * c = kc at *
     omega), hM6.del⟩
    clear x0 x1 x2 J6 K6 C6 N6 hown6 hM6 HU7 HG7
    gi_wp2
    go_roundw
    case rel => first | exact ⟨k + 1, by omega, by go_num, J7, N7, K7⟩ | exact ⟨k + 1, by omega, by go_num, J7, N7⟩ | trace_state
    case measure => simp [intOf]; omega
  ·obtain rfl : k = L.length := by omega
   have HLN : Hid (((ids ++ [(0 : Int)]).length : Int) = (ids.length : Int) + 1) := yz (by simp)
   have N5 : Hid (be wr b (N + L.length * 13 ^ r) L (ids ++ [0])) := yz (by obtain ⟨D, h1, h2⟩ := yy HNr; exact ⟨D, h1, h2.snoc0⟩)
   have cI := yz (fun (j : Nat) => yy HIH (ids ++ [0]) (pre ++ eT (bs L S) (L.map (·.1)) r ids L.length) (N + L.length * 13 ^ r) j wr (by rw [List.length_append, List.length_singleton]; omega) (by
    have h1 : L.length * 13 ^ r ≤ 12 * 13 ^ r := Nat.mul_le_mul_right _ hn12
    rw [Nat.pow_succ] at hN13
    generalize 13 ^ r = c at *
    generalize L.length * c = kc at *
    omega) (yy N5) (yy Sr) (yy Dr) (by omega) (by omega) (yy HJr))
   rw [yy HLN] at cI
   gi_wp2
   refine ⟨trivial, fun h => (by cases h), ?_⟩
   refine (yy cI _).mono ?_
   rintro e W6 ⟨rfl, hJ6, hN6, hK6⟩
   have J6 := yz hJ6
   have N6 := yz hN6
   have K6 := yz (((yy HK0).trans (yy HKr)).trans hK6)
   clear hJ6 hN6 hK6 cI N5 c0 c1 c2
   gi_wp2
   go_ret
   refine ⟨rfl, ?_, ?_, yy K6⟩
   ·rw [qN, ← List.append_assoc, List.length_map]
    exact yy J6
   ·obtain ⟨D, h1, h2⟩ := yy N6
    refine ⟨D, h1.mono ?_, fun i hi => ?_⟩
    ·have h3 : L.length * 13 ^ r ≤ 12 * 13 ^ r := Nat.mul_le_mul_right _ hn12
     have h4 : 0 < 13 ^ r := Nat.pow_pos (by decide)
     rw [Nat.pow_succ]
     generalize 13 ^ r = c at *
     generalize L.length * c = kc at *
     omega
    ·have h5 := h2 i hi
     unfold cJ at h5 ⊢
     rw [kV] at h5
     exact h5
theorem oD (L : List St) (S : List D3) (ar br : Option Addr) (cr dr b l p q : Nat) (J : List (List Int) → World → Prop) (hk : aL L = true) (hm : S.length ≤ 6) (hJ : JAb b J) (hY : km l p q J) (hbp : b ≠ p) (hbq : b ≠ q) (hA : fR ar b p q) (hB : fR br b p q) : ∀ r, sW L S ar br cr dr b l p q J r
 | 0 => re L S ar br cr dr b l p q J hm hJ hY hbp hbq
 | r + 1 => rd L S ar br cr dr b l p q r J hk hm hJ hbp hbq hA hB (oD L S ar br cr dr b l p q J hk hm hJ hY hbp hbq hA hB r)
attribute [local go_sem] Oper.semAt_some
theorem nC (w : World) (L : List St) : be (w.alloc (.map #[] 0)) w.heap.size 0 L [] := ⟨.map [], World.ownsMap_made w _ _ _, fun i hi => ⟨by simp [Maps.has], by unfold cJ; simp; rfl⟩⟩
theorem sZ (L : List St) (S : List D3) (ar br : Option Addr) (cr dr l p q s1 s2 n : Nat) (J : List (List Int) → World → Prop) (W : World) (hk : aL L = true) (hm : S.length ≤ 6) (h1 : W.cell? ⟨s1, 0, none⟩ = some (.slice ar L.length cr)) (h2 : W.cell? ⟨s2, 0, none⟩ = some (.slice br S.length dr)) (hS : aJ W ar L L.length) (hD : bi W br S S.length) (hA : ∀ y, ar = some y → y.block < W.heap.size ∧ y.block ≠ p ∧ y.block ≠ q) (hB : ∀ y, br = some y → y.block < W.heap.size ∧ y.block ≠ p ∧ y.block ≠ q) (hp : p < W.heap.size) (hq : q < W.heap.size)
  (hJ : ∀ b, W.heap.size ≤ b → JAb b J) (hJn : ∀ pre W1 W2, J pre W1 → Below W1.heap.size W1 W2 → J pre W2) (hY : km l p q J) (h0 : J [] W) :
  CallsIn Fence.wide n Tryz.prog 63 #[.func (.yield l) #[] #[], .pointer (some ⟨s1, 0, none⟩), .pointer (some ⟨s2, 0, none⟩)] W fun e W' => (∃ v, e = .returned v) ∧ J (cg (bs L S) (L.map (·.1)) S.length []) W' := by
 have hmm := @run_makeMap Tryz.prog
 refine callsIn_of_wp Tryz.func63 rfl trivial ?_ rfl
 simp only [Tryz.ntmps63, List.size_toArray, List.length_cons, List.length_nil, Nat.reduceAdd, Nat.reduceSub, Array.replicate_succ, Array.replicate_zero, List.push_toArray, List.append_toArray, List.nil_append, List.cons_append]
 gi_wp2
 refine ⟨trivial, fun h => (by cases h), ?_⟩
 have B1 := bj W (.map #[] 0) (.cells #[.slice ar L.length cr, .slice br S.length dr, .map (some W.heap.size)] 100)
 have N1 := (nC W L).below (ak _ (.cells #[.slice ar L.length cr, .slice br S.length dr, .map (some W.heap.size)] 100))
 have hz : ((W.alloc (.map #[] 0)).alloc (.cells #[.slice ar L.length cr, .slice br S.length dr, .map (some W.heap.size)] 100)).heap.size = W.heap.size + 2 := by simp
 refine (oD L S ar br cr dr W.heap.size l p q J hk hm (hJ _ (Nat.le_refl _)) hY (by omega) (by omega) (fun y e => ⟨by have := (hA y e).1; omega, (hA y e).2⟩) (fun y e => ⟨by have := (hB y e).1; omega, (hB y e).2⟩) S.length [] [] 0 _ _ (by simp) (by have : 13 ^ S.length ≤ 13 ^ 6 := Nat.pow_le_pow_right (by decide) hm; omega) N1 (hS.kept B1) (hD.kept B1) (by omega) (by omega) (hJn _ _ _ h0 B1)).mono ?_
 rintro e W2 ⟨rfl, hJ2, _, _⟩
 have HJ2 := yz hJ2
 clear hJ2 N1 B1
 gi_wp2
 go_end0
 exact ⟨⟨_, rfl⟩, by simpa using yy HJ2⟩
attribute [local go_sem] Oper.semAt_some
structure oa (W : World) (p q : Nat) (G : List Int × Nat) : Prop where
 most : ∃ v, W.heap[p]? = some (.cells #[v] 27 (0, 0)) ∧ ((G.1 = [] ∧ v = .slice none 0 0) ∨ ∃ g, v = .slice (some ⟨g, 0, none⟩) G.1.length G.1.length ∧ p ≤ g ∧ g ≠ p ∧ g ≠ q ∧ cq W 2 g (G.1.length * 1) (li G.1))
 alike : W.heap[q]? = some (.cells #[.int .i64 (wrap64 (G.2 : Int))] 2 (0, 0))
 len : G.1.length ≤ 6
structure GrJ (p q l d : Nat) (rec : Loop) (w0 : World) (pre : List (List Int)) (W : World) : Prop where
 box : oa W p q (pre.foldl aR ([], 0))
 rc : W.heap[l]? = some (.loop rec)
 df : W.heap[d]? = some (.deferred (some []))
 bel : Below w0.heap.size w0 W
theorem bE {W W' : World} {k : Nat} {o : Obj} {row : Option Nat} (h : W.heap[k]? = some o) (hg : W.grownBy W' row) (hne : some k ≠ row) : W'.heap[k]? = some o := (hg.block k (Array.getElem?_eq_some_iff.1 h).1 hne).trans h
theorem oa.grown {W W' : World} {p q : Nat} {G : List Int × Nat} {row : Option Nat} (h : oa W p q G) (hg : W.grownBy W' row) (hne : ∀ k cs t f, W.heap[k]? = some (.cells cs t f) → some k ≠ row) : oa W' p q G := by
 obtain ⟨⟨v, h1, h2⟩, h3, h4⟩ := h
 refine ⟨⟨v, bE h1 hg (hne _ _ _ _ h1), ?_⟩, bE h3 hg (hne _ _ _ _ h3), h4⟩
 rcases h2 with h2 | ⟨g, e, n0, n1, n2, cur, hc, hr⟩
 ·exact .inl h2
 ·exact .inr ⟨g, e, n0, n1, n2, cur, bE hc hg (hne _ _ _ _ hc), hr⟩
theorem GrJ.abides {p q l d : Nat} {rec : Loop} {w0 : World} {b : Nat} (hb : w0.heap.size ≤ b) : JAb b (GrJ p q l d rec w0) := fun pre W W' h ⟨es, c, hm⟩ hg =>
 ⟨h.box.grown hg (fun k cs t f hk e => by have := Option.some.inj e; subst this; rw [hm] at hk; cases hk), bE h.rc hg (fun e => by have e2 := Option.some.inj e; have h2 := h.rc; rw [e2, hm] at h2; cases h2), bE h.df hg (fun e => by have e2 := Option.some.inj e; have h2 := h.df; rw [e2, hm] at h2; cases h2), h.bel.trans ⟨hg.os, hg.tape, hg.output, hg.size, fun k hk => hg.block k (Nat.lt_of_lt_of_le hk h.bel.size) (fun e => by have := Option.some.inj e; omega)⟩⟩
theorem GrJ.below {p q l d : Nat} {rec : Loop} {w0 : World} (pre : List (List Int)) (W W' : World) (h : GrJ p q l d rec w0 pre W) (hB : Below W.heap.size W W') : GrJ p q l d rec w0 pre W' := by
 have hg : W.grownBy W' none := ⟨hB.os, hB.tape, hB.output, hB.size, fun k hk _ => hB.block k hk⟩
 exact ⟨h.box.grown hg (fun k cs t f hk e => by cases e), bE h.rc hg (by simp), bE h.df hg (by simp), aj h.bel hB⟩
theorem pP {P : Program} {n : Nat} {g : Operand} {ps : Array Tmp} {assign body : Code} {Q : Exit → Act → World → Prop} {a : Act} {w : World} {gf : Nat} {lb : Array Value} (hg : a.eval g = .func (.func gf) #[] lb) (eg : ∀ args w, (callFunc gf args).run P w = .ok (.enter gf args) w)
  (hc : ∀ (rec : Loop), rec.state = .ready → rec.pending = none → rec.tmps = a.tmps → rec.params = ps → rec.assign = assign → rec.body = body → CallsIn Fence.wide (n - 1) P gf (#[.func (.yield (w.heap.size + 1)) #[] #[]] ++ lb) ((w.alloc (.deferred (some []))).alloc (.loop rec)) fun e W' => (∃ v, e = .returned v) ∧ W'.heap[w.heap.size + 1]? = some (.loop rec) ∧ Q .normal { a with defers := { target := .collected w.heap.size, args := #[] } :: a.defers } (W'.putObj (w.heap.size + 1) (.loop { rec with state := .exhausted }))) :
  (Code.rangeFunc g ps assign body).wpIn Fence.wide n P Q a w := by
 refine wpIn_rangeFunc fun fn _ => ?_
 refine ⟨w.heap.size + 1, _, _, { target := .fn (.func gf) lb, args := #[.func (.yield (w.heap.size + 1)) #[] #[]] }, ?wa, gf, #[.func (.yield (w.heap.size + 1)) #[] #[]] ++ lb, ?wb, run_enterLoop_outer _ _ _ _ _, ?res, fun _ _ => trivial, ?inv, fun h => (by cases h), ?call⟩
 case res =>
  simp only [resolve, hg]
  simp [go_sem]
  rfl
 case inv =>
  simp [invoke, go_sem, eg]
  rfl
 case call =>
  refine (hc _ rfl rfl rfl rfl rfl rfl).mono ?_
  rintro e W' ⟨⟨v, rfl⟩, hl, hq⟩
  exact ⟨none, _, run_endLoop hl (by simp), hq⟩
attribute [local go_sem] Oper.semAt_some
theorem sV (a : Int) : wrap64 (wrap64 a + 1) = wrap64 (a + 1) := by unfold wrap64; omega
theorem rJ (a : Nat) : wrap64 (wrap64 (a : Int) + 1) = wrap64 ((a + 1 : Nat) : Int) := by rw [sV]; rfl
theorem fX {W : World} {p : Nat} {v : Value} {t : TypeId} (h : W.heap[p]? = some (.cells #[v] t (0, 0))) : W.cell? ⟨p, 0, none⟩ = some v ∧ W.frozen? ⟨p, 0, none⟩ = false := by
 constructor <;> simp [World.cell?, World.frozen?, h]
theorem qx {p q l : Nat} {W : World} {o o' : Obj} (h : W.heap[l]? = some o) (h1 : o.isCells = false) (h2 : o.isWalk = false) : KpX p q W (W.putObj l o') :=
 ⟨by simp, rfl, rfl, rfl, fun k ob hk ho _ _ => by
  have hne : k ≠ l := fun e => by subst e; rw [h] at hk; cases hk; rcases ho with ho | ho <;> simp_all
  exact (World.putObj_heap_other hne).trans hk⟩
theorem nu {p q x : Nat} (W : World) (v : Value) (hx : x = p ∨ x = q) : KpX p q W (W.setCell ⟨x, 0, none⟩ v) :=
 ⟨by simp, rfl, rfl, rfl, fun k o hk _ h1 h2 => by rw [Below.heap_setCell W ⟨x, 0, none⟩ v k (by show k ≠ x; rcases hx with rfl | rfl <;> assumption)]; exact hk⟩
theorem mX {W : World} {x : Nat} {u : Value} {t : TypeId} (h : W.heap[x]? = some (.cells #[u] t (0, 0))) (v : Value) : (W.setCell ⟨x, 0, none⟩ v).heap[x]? = some (.cells #[v] t (0, 0)) := by
 have := heap_setCell_same W x 0 #[u] t v h
 simpa using this
theorem eb {W : World} {x k : Nat} {o : Obj} (h : W.heap[k]? = some o) (hne : k ≠ x) (v : Value) : (W.setCell ⟨x, 0, none⟩ v).heap[k]? = some o := by rw [Below.heap_setCell W ⟨x, 0, none⟩ v k hne]; exact h
theorem nM {W : World} {x g m : Nat} {t : TypeId} {f : Nat → Value} (h : cq W t g m f) (hne : g ≠ x) (v : Value) : cq (W.setCell ⟨x, 0, none⟩ v) t g m f := by
 obtain ⟨cur, hc, hr⟩ := h
 exact ⟨cur, eb hc hne v, hr⟩
theorem jw {p q l d : Nat} {rec rb : Loop} {w W V V' : World} {pre : List (List Int)} {xi : List Int} (hJ : GrJ p q l d rec w pre W) (hV : W.putObj l (.loop rb) = V) (hrb : ({ rb with state := .ready, pending := none } : Loop) = rec) (hlw : w.heap.size ≤ l) (hld : l ≠ d)
  (hb : oa V' p q (aR (pre.foldl aR ([], 0)) xi)) (hl : V'.heap[l]? = some (.loop rb)) (hd : V'.heap[d]? = some (.deferred (some []))) (hB : Below w.heap.size V V') (hk : KpX p q V V') :
  ∃ v w', (Instr.endRound l none).run Tryz.prog V' = .ok v w' ∧ (Ending.returned v = .returned (.bool true) ∧ GrJ p q l d rec w (pre ++ [xi]) w' ∧ KpX p q W w') := by
 have he := run_endRound (P := Tryz.prog) none hl
 have hrb' : ({ rb with state := if (none : Option Code).isNone then .ready else .done, pending := none } : Loop) = rec := hrb
 rw [hrb'] at he
 have hg := grownBy_putObj' V' l (.loop rec)
 have hnc : ∀ k cs t f, V'.heap[k]? = some (.cells cs t f) → some k ≠ some l := fun k cs t f hk e => by have := Option.some.inj e; rw [this, hl] at hk; cases hk
 refine ⟨_, _, he, rfl, ⟨?_, World.putObj_heap_same (Array.getElem?_eq_some_iff.1 hl).1, bE hd hg (fun e => hld (Option.some.inj e).symm), ?_⟩, ?_⟩
 ·rw [List.foldl_append]
  exact hb.grown hg hnc
 ·have b1 : Below w.heap.size W V := hV ▸ ((Below.refl w.heap.size W).grown (grownBy_putObj' W l (.loop rb)) hJ.bel.size (fun k e => by cases e; exact hlw))
  exact ((hJ.bel.trans b1).trans hB).trans ((Below.refl w.heap.size V').grown hg (Nat.le_trans hJ.bel.size (Nat.le_trans b1.size hB.size)) (fun k e => by cases e; exact hlw))
 ·have k1 : KpX p q W V := hV ▸ qx hJ.rc rfl rfl
  exact (k1.trans hk).trans (qx hl rfl rfl)
theorem ni (L : List St) (S : List D3) (ar br : Option Addr) (cr dr s1 s2 : Nat) (w : World) (hk : aL L = true) (hm : S.length ≤ 6) (h1 : w.cell? ⟨s1, 0, none⟩ = some (.slice ar L.length cr)) (h2 : w.cell? ⟨s2, 0, none⟩ = some (.slice br S.length dr)) (hS : aJ w ar L L.length) (hD : bi w br S S.length) (hA : ∀ y, ar = some y → y.block < w.heap.size) (hB : ∀ y, br = some y → y.block < w.heap.size) (n : Nat) :
  CallsIn Fence.wide n Tryz.prog 27 #[.func (.func 63) #[] #[.pointer (some ⟨s1, 0, none⟩), .pointer (some ⟨s2, 0, none⟩)]] w fun e w' => (∃ v, e = .returned (.tuple #[v, .int .i64 (wrap64 ((aW L S).2 : Int))]) ∧ (((aW L S).1 = [] ∧ v = .slice none 0 0) ∨ ∃ g, v = .slice (some ⟨g, 0, none⟩) (aW L S).1.length (aW L S).1.length ∧ w.heap.size ≤ g ∧ cq w' 2 g ((aW L S).1.length * 1) (li (aW L S).1))) ∧ Below w.heap.size w w' ∧ (aW L S).1.length ≤ 6 := by
 refine callsIn_of_wp_marks Tryz.func27 rfl trivial ?_ rfl
 simp only [Tryz.ntmps27, List.size_toArray, List.length_cons, List.length_nil, Nat.reduceAdd, Nat.reduceSub, Array.replicate_succ, Array.replicate_zero, List.push_toArray, List.append_toArray, List.nil_append, List.cons_append]
 gi_wp2
 have B0 := bj w (.cells #[.slice none 0 0] 27) (.cells #[.int .i64 0] 2)
 have hz0 : ((w.alloc (.cells #[.slice none 0 0] 27)).alloc (.cells #[.int .i64 0] 2)).heap.size = w.heap.size + 2 := by simp
 have hp0 : ((w.alloc (.cells #[.slice none 0 0] 27)).alloc (.cells #[.int .i64 0] 2)).heap[w.heap.size]? = some (.cells #[.slice none 0 0] 27 (0, 0)) := (Below.heap_alloc _ _ _ (by simp)).trans (World.alloc_heap_new w _)
 have hq0 : ((w.alloc (.cells #[.slice none 0 0] 27)).alloc (.cells #[.int .i64 0] 2)).heap[w.heap.size + 1]? = some (.cells #[.int .i64 0] 2 (0, 0)) := by
  have := World.alloc_heap_new (w.alloc (.cells #[.slice none 0 0] 27)) (.cells #[.int .i64 0] 2)
  rw [World.size_alloc] at this
  exact this
 generalize hW0 : (w.alloc (.cells #[.slice none 0 0] 27)).alloc (.cells #[.int .i64 0] 2) = W0 at *
 clear hW0
 refine pP rfl (enters_of Tryz.func63 (by kernel_rfl) rfl) ?_
 intro rec hst hpe htm hpa has hbo
 have B1 : Below W0.heap.size W0 ((W0.alloc (.deferred (some []))).alloc (.loop rec)) := bj W0 _ _
 have hz1 : ((W0.alloc (.deferred (some []))).alloc (.loop rec)).heap.size = w.heap.size + 4 := by simp; omega
 have hl1 : ((W0.alloc (.deferred (some []))).alloc (.loop rec)).heap[W0.heap.size + 1]? = some (.loop rec) := by
  have := World.alloc_heap_new (W0.alloc (.deferred (some []))) (.loop rec)
  rw [World.size_alloc] at this
  exact this
 have hd1 : ((W0.alloc (.deferred (some []))).alloc (.loop rec)).heap[W0.heap.size]? = some (.deferred (some [])) := (Below.heap_alloc _ _ _ (by simp)).trans (World.alloc_heap_new W0 _)
 generalize hW1 : (W0.alloc (.deferred (some []))).alloc (.loop rec) = W1 at *
 clear hW1
 rw [hz0] at hl1 hd1 ⊢
 have Bw := aj B0 B1
 have Jst : GrJ w.heap.size (w.heap.size + 1) (w.heap.size + 2 + 1) (w.heap.size + 2) rec w [] W1 := ⟨⟨⟨_, by rw [B1.block _ (by omega)]; exact hp0, .inl ⟨rfl, rfl⟩⟩, by rw [B1.block _ (by omega), hq0]; exact congrArg (fun z => some (Obj.cells #[Value.int .i64 z] 2 (0, 0))) (show (0 : Int) = wrap64 0 from (ay (by omega) (by omega)).symm), by simp⟩, hl1, hd1, Bw⟩
 refine (sZ L S ar br cr dr (w.heap.size + 2 + 1) w.heap.size (w.heap.size + 1) s1 s2 (n - 1) (GrJ w.heap.size (w.heap.size + 1) (w.heap.size + 2 + 1) (w.heap.size + 2) rec w) W1 hk hm (aZ h1 Bw) (aZ h2 Bw) (hS.kept Bw) (hD.kept Bw) (fun y e => by have := hA y e; omega) (fun y e => by have := hB y e; omega) (by omega) (by omega) (fun b hb => GrJ.abides (by omega)) GrJ.below ?round Jst).mono ?behind
 case round =>
  clear Jst B1 Bw hl1 hd1 hp0 hq0 B0
  intro m pre x W hJ hW0 hx hlen
  obtain ⟨xi, xg⟩ := x
  unfold uh at hx
  unfold ui
  dsimp only at hx hlen hW0 ⊢
  have hfar : w.heap.size ≤ xg := by
   obtain ⟨W0', hJ0, h0⟩ := hW0
   have := (Array.getElem?_eq_some_iff.1 hJ0.rc).1
   omega
  clear hW0
  refine ⟨rec.fn, _, rec.assign, rec.body, run_yield hJ.rc (by rw [hpa]; rfl), roundIn_of_wpIn trivial ?_⟩
  rw [has, hbo, htm, hpa]
  have hW2 := hJ.rc
  have hbeg := run_beginRound (P := Tryz.prog) hJ.rc hst
  have hG2 := grownBy_putObj' W (w.heap.size + 2 + 1) (.loop { rec with state := .busy })
  have hnc : ∀ k cs t f, W.heap[k]? = some (.cells cs t f) → some k ≠ some (w.heap.size + 2 + 1) := fun k cs t f hk e => by have := Option.some.inj e; rw [this, hJ.rc] at hk; cases hk
  have hBx := hJ.box.grown hG2 hnc
  have hX2 : cq (W.putObj (w.heap.size + 2 + 1) (.loop { rec with state := .busy })) 2 xg (xi.length * 1) (li xi) := by obtain ⟨cur, hc, hr⟩ := hx; exact ⟨cur, bE hc hG2 (hnc _ _ _ _ hc), hr⟩
  have hl2 : (W.putObj (w.heap.size + 2 + 1) (.loop { rec with state := .busy })).heap[w.heap.size + 2 + 1]? = some (.loop { rec with state := .busy }) := World.putObj_heap_same (Array.getElem?_eq_some_iff.1 hJ.rc).1
  have HBx := yz hBx
  have HX := yz hX2
  have HL2 := yz hl2
  have HJ := yz hJ
  have HG2 := yz hG2
  have HRB : Hid (({ ({ rec with state := .busy } : Loop) with state := .ready, pending := none } : Loop) = rec) := yz (by cases rec; simp_all)
  clear hBx hX2 hl2 hJ hx hnc hG2 hW2 has hbo htm hpa hpe hst
  generalize hrb : ({ rec with state := .busy } : Loop) = rb at *
  clear hrb
  have cN := yz (fun (j : Nat) => CallsIn.inRound (w.heap.size + 2 + 1) ((callsIn_wide (n := j)).2 (eL xi (some ⟨xg, 0, none⟩) xi.length _ (by omega) (iN (yy HX)))))
  gi_wp2
  refine ⟨trivial, fun h => (by cases h), ?_⟩
  refine (yy cN _).mono ?_
  rintro e V1 ⟨rfl, hV1⟩
  generalize hV : W.putObj (w.heap.size + 2 + 1) (.loop rb) = V at *
  subst hV1
  obtain ⟨G, hG⟩ : ∃ G, pre.foldl aR ([], 0) = G := ⟨_, rfl⟩
  rw [hG] at HBx
  have HG := yz hG
  clear hG hbeg cN
  obtain ⟨Gm, Ga⟩ := G
  obtain ⟨⟨vm, hvm, hmost⟩, halike, hlenG⟩ := yy HBx
  dsimp only at hmost halike hlenG
  have HD2 : Hid (V1.heap[w.heap.size + 2]? = some (.deferred (some []))) := yz (by rw [← hV]; exact bE (yy HJ).df (grownBy_putObj' W _ _) (fun e => by have := Option.some.inj e; omega))
  have hV1s : w.heap.size + 4 ≤ V1.heap.size := by have := (Array.getElem?_eq_some_iff.1 (yy HL2)).1; omega
  obtain ⟨am, cm, hvf, hnm⟩ : ∃ am cm, vm = .slice am Gm.length cm ∧ bF V1 am Gm Gm.length := by
   rcases hmost with ⟨e1, e2⟩ | ⟨g, e, _, _, _, hr⟩
   ·exact ⟨none, 0, by rw [e1, e2]; rfl, .inl (by rw [e1]; rfl)⟩
   ·exact ⟨_, _, e, iN hr⟩
  subst hvf
  have HM := yz hmost
  have HVM := yz hvm
  have HAL := yz halike
  obtain ⟨m0, m1⟩ := fX hvm
  obtain ⟨a0, a1⟩ := fX halike
  have cM := yz (fun (j : Nat) => CallsIn.inRound (w.heap.size + 2 + 1) ((callsIn_wide (n := j)).2 (eL Gm am cm V1 (by omega) hnm)))
  have HSame : Hid (aR (Gm, Ga) xi = (Gm, Ga) → ∃ v w', (Instr.endRound (w.heap.size + 2 + 1) none).run Tryz.prog V1 = .ok v w' ∧ (Ending.returned v = .returned (.bool true) ∧ GrJ w.heap.size (w.heap.size + 1) (w.heap.size + 2 + 1) (w.heap.size + 2) rec w (pre ++ [xi]) w' ∧ KpX w.heap.size (w.heap.size + 1) W w')) := yz (fun e => jw (yy HJ) hV (yy HRB) (by omega) (by omega) (by rw [yy HG, e]; exact yy HBx) (yy HL2) (yy HD2) (Below.refl _ _) ⟨Nat.le_refl _, rfl, rfl, rfl, fun _ _ h _ _ _ => h⟩)
  clear hmost hvm halike hnm
  by_cases c3 : aD xi < 3
  ·have c3' : (aD xi : Int) < 3 := by omega
   gi_wp2
   refine ⟨trivial, ?_⟩
   gi_wp2
   exact yy HSame (by unfold aR; rw [if_pos (.inl c3)])
  have c3' : ¬ (aD xi : Int) < 3 := by omega
  gi_wp2
  refine ⟨trivial, fun h => (by cases h), ?_⟩
  refine (yy cM _).mono ?_
  rintro e V2 ⟨rfl, hV2⟩
  rw [hV2]
  clear hV2 V2
  by_cases c4 : aD xi < aD Gm
  ·have c4' : (aD xi : Int) < (aD Gm : Int) := by omega
   gi_wp2
   exact yy HSame (by unfold aR; rw [if_pos (.inr c4)])
  have c4' : ¬ (aD xi : Int) < (aD Gm : Int) := by omega
  gi_wp2
  refine ⟨trivial, fun h => (by cases h), ?_⟩
  refine (yy cM _).mono ?_
  rintro e V2 ⟨rfl, hV2⟩
  rw [hV2]
  clear hV2 V2
  have hxl : 3 ≤ xi.length := by have := eY xi; omega
  have hxp : xg ≠ w.heap.size := fun e => by
   obtain ⟨cur, hc, _⟩ := yy HX
   have h5 := yy HVM
   rw [← e, hc] at h5
   simp at h5
  have hxq : xg ≠ w.heap.size + 1 := fun e => by
   obtain ⟨cur, hc, hr⟩ := yy HX
   have h5 := yy HAL
   rw [← e, hc] at h5
   simp at h5
   have h6 := hr 1 (by omega)
   rw [h5] at h6
   simp at h6
  by_cases c5 : aD Gm < aD xi
  ·have c5' : (aD Gm : Int) < (aD xi : Int) := by omega
   gi_wp2
   have hst : aR (Gm, Ga) xi = (xi, 1) := by unfold aR; dsimp only; rw [if_neg (by rintro (h | h) <;> omega), if_pos c5]
   refine jw (yy HJ) hV (yy HRB) (by omega) (by omega) ?_ (eb (eb (yy HL2) (by omega) _) (by omega) _) (eb (eb (yy HD2) (by omega) _) (by omega) _) (((Below.refl w.heap.size V1).setCell (p := ⟨w.heap.size, 0, none⟩) (Nat.le_refl _) _).setCell (p := ⟨w.heap.size + 1, 0, none⟩) (by show w.heap.size ≤ w.heap.size + 1; omega) _) ((nu V1 _ (.inl rfl)).trans (nu _ _ (.inr rfl)))
   rw [yy HG, hst]
   refine ⟨⟨_, eb (mX (yy HVM) _) (by omega) _, .inr ⟨xg, rfl, hfar, hxp, hxq, nM (nM (yy HX) hxp _) hxq _⟩⟩, ?_, hlen⟩
   have h7 := mX (eb (x := w.heap.size) (yy HAL) (by omega) (Value.slice (some ⟨xg, 0, none⟩) xi.length xi.length)) (Value.int .i64 1)
   rw [show wrap64 (((xi, 1) : List Int × Nat).2 : Int) = 1 from ay (n := 1) (by omega) (by omega)]
   exact h7
  ·have c5' : ¬ (aD Gm : Int) < (aD xi : Int) := by omega
   gi_wp2
   have hst : aR (Gm, Ga) xi = (Gm, Ga + 1) := by unfold aR; dsimp only; rw [if_neg (by rintro (h | h) <;> omega), if_neg c5]
   refine jw (yy HJ) hV (yy HRB) (by omega) (by omega) ?_ (eb (yy HL2) (by omega) _) (eb (yy HD2) (by omega) _) ((Below.refl w.heap.size V1).setCell (p := ⟨w.heap.size + 1, 0, none⟩) (by show w.heap.size ≤ w.heap.size + 1; omega) _) (nu V1 _ (.inr rfl))
   rw [yy HG, hst]
   refine ⟨⟨_, eb (yy HVM) (by omega) _, ?_⟩, ?_, hlenG⟩
   ·rcases yy HM with h | ⟨g, e, n0, n1, n2, hr⟩
    ·exact .inl h
    ·exact .inr ⟨g, e, n0, n1, n2, nM hr n2 _⟩
   ·have h7 := mX (yy HAL) (Value.int .i64 (wrap64 (wrap64 (Ga : Int) + 1)))
    rw [h7]
    have e8 : wrap64 (wrap64 (Ga : Int) + 1) = wrap64 (((Gm, Ga + 1) : List Int × Nat).2 : Int) := by
     show wrap64 (wrap64 (Ga : Int) + 1) = wrap64 ((Ga + 1 : Nat) : Int)
     exact rJ Ga
    rw [e8]
 case behind =>
  rintro e W' ⟨⟨v, rfl⟩, hJ⟩
  refine ⟨⟨_, rfl⟩, hJ.rc, ?_⟩
  have hne : ∀ k cs t f, W'.heap[k]? = some (.cells cs t f) → some k ≠ some (w.heap.size + 2 + 1) := fun k cs t f hk e => by have := Option.some.inj e; rw [this, hJ.rc] at hk; cases hk
  have hBx := fun o => hJ.box.grown (grownBy_putObj' W' (w.heap.size + 2 + 1) o) hne
  have HBx := yz hBx
  have HDf := yz (fun o => bE hJ.df (grownBy_putObj' W' (w.heap.size + 2 + 1) o) (fun e => by have := Option.some.inj e; omega))
  have HBl := yz (fun o => hJ.bel.trans ((Below.refl w.heap.size W').grown (grownBy_putObj' W' (w.heap.size + 2 + 1) o) hJ.bel.size (fun k e => by cases e; omega)))
  obtain ⟨⟨vm, hvm, hmost⟩, halike, hlen6⟩ := hJ.box
  have m0 := fun o => (fX (bE hvm (grownBy_putObj' W' (w.heap.size + 2 + 1) o) (hne _ _ _ _ hvm))).1
  have a0 := fun o => (fX (bE halike (grownBy_putObj' W' (w.heap.size + 2 + 1) o) (hne _ _ _ _ halike))).1
  have HM := yz hmost
  have HNe := yz hne
  clear hBx hvm hmost halike hne hJ B1 Bw hl1 hd1 hp0 hq0 B0 Jst has hbo htm hpa hpe hst
  gi_wp2
  gi_region
  gi_wp2
  refine ⟨by simp, .inl ⟨w.heap.size + 2, _, rfl, run_takeDeferred (yy HDf _), ?_⟩⟩
  have HBy := yz (fun o => (yy HBl o).drew.trans ((Below.refl w.heap.size _).grown (grownBy_putObj' (W'.putObj (w.heap.size + 2 + 1) o).drew (w.heap.size + 2) (.deferred none)) (yy HBl o).size (fun k e => by cases e; omega)))
  refine ⟨_, by simp [results, go_sem]; rfl, ⟨vm, rfl, ?_⟩, yy HBy _, hlen6⟩
  rcases yy HM with h | ⟨g, e, n0, n1, n2, hr⟩
  ·exact .inl h
  ·refine .inr ⟨g, e, n0, ?_⟩
   obtain ⟨cur, hc, hr⟩ := hr
   have k1 := fun o => bE hc (grownBy_putObj' W' (w.heap.size + 2 + 1) o) (yy HNe _ _ _ _ hc)
   have hgd : g ≠ w.heap.size + 2 := fun e => by
    have h2 := yy HDf (.deferred none)
    have h3 := k1 (.deferred none)
    rw [e, h2] at h3
    cases h3
   have k2 : ∀ o, ((W'.putObj (w.heap.size + 2 + 1) o).drew.putObj (w.heap.size + 2) (.deferred none)).heap[g]? = some (.cells cur 2 (0, 0)) := fun o => (World.putObj_heap_other hgd).trans (k1 o)
   exact ⟨cur, k2 _, hr⟩
theorem oN (L : List St) (S : List D3) (ar br : Option Addr) (cr dr : Nat) (w : World) :
  Calls Tryz.prog 28 #[.slice ar L.length cr, .slice br S.length dr] w fun e w' => e = .returned (.func (.func 63) #[] #[.pointer (some ⟨w.heap.size, 0, none⟩), .pointer (some ⟨w.heap.size + 1, 0, none⟩)]) ∧ w'.cell? ⟨w.heap.size, 0, none⟩ = some (.slice ar L.length cr) ∧ w'.cell? ⟨w.heap.size + 1, 0, none⟩ = some (.slice br S.length dr) ∧ Below w.heap.size w w' := by
 go_enter Tryz.func28, Tryz.ntmps28
 go_wp2
 refine bodyPost_ret (v := .func (.func 63) #[] #[.pointer (some ⟨w.heap.size, 0, none⟩), .pointer (some ⟨w.heap.size + 1, 0, none⟩)]) (by simp [results, go_sem]) rfl ⟨rfl, ?_, ?_, bj w _ _⟩
 ·exact aZ (by simp) (ak _ _)
 ·have := World.alloc_heap_new (w.alloc (.cells #[.slice ar L.length cr] 23)) (.cells #[.slice br S.length dr] 24)
  rw [World.size_alloc] at this
  exact (fX this).1
end
end Go.Proofs.YtoakkmjcbnfljaaGreatDoor
