/- A list put behind an empty one; a leaf of the specification's search. -/
import Derived.Test.YtjdehbpgdplolaaDoorIeA
namespace Go.Proofs.YtjdehbpgdplolaaDoor
open Go.RowKit Go.Sort
set_option linter.unusedVariables false

theorem run_append_nilR {P : Program} (w : World) (t ty e : TypeId) (i : TypeInfo) (ht : P.underlying t = some (.slice e)) (hi : P.info? e = some i) (g : Nat) :
    (Builtin.append_ #[t, t] ty #[.slice (some ⟨g, 0, none⟩) 0 0, .slice none 0 0]).run P w = .ok (.slice (some ⟨g, 0, none⟩) 0 0) w := by
  simp [Builtin.append_, run_underlying ht, sizeOf, typeInfo, hi, Builtin.lenOf, Builtin.firstCells, loadCells, loadCellsFrom, storeCells]
theorem intL_at {w : World} {g : Nat} {ids : List Int} (hc : ∀ i, i < ids.length → w.cell? ⟨g, i, none⟩ = some (.int .i64 (ids.getD i 0))) (j : Nat) (u : Value) (hj : (intL ids)[j]? = some u) : w.cell? ((⟨g, 0, none⟩ : Addr).add j) = some u := by
  have hA : (⟨g, 0, none⟩ : Addr).add j = ⟨g, 0 + j, none⟩ := by unfold Addr.add; split <;> simp_all
  unfold intL at hj
  rw [List.getElem?_map] at hj
  have hlt : j < ids.length := by
    rcases Nat.lt_or_ge j ids.length with h | h
    · exact h
    · rw [List.getElem?_eq_none h] at hj; cases hj
  rw [hA, Nat.zero_add, hc j hlt]
  rw [List.getElem?_eq_getElem hlt] at hj
  rw [List.getD_eq_getElem?_getD, List.getElem?_eq_getElem hlt]
  exact hj
theorem intL_len (ids : List Int) : (intL ids).length = ids.length := by unfold intL; rw [List.length_map]
theorem wpList_copyIds (w : World) {ops : Array Oper} {rest : List Oper} {o : Oper} {a : Act} {Q : Exit → Act → World → Prop} (hgd : o.guard = none) (s x : Operand)
    (ho : o.op = .call { callee := .builtin .append, args := #[s, x], argTypes := #[26, 26] })
    (base g : Nat) (hs : a.eval s = .slice (some ⟨g, 0, none⟩) 0 0) (hown : w.ownsRow base 2 1 (.slice (some ⟨g, 0, none⟩) 0 0) 0 []) (y : Nat) (ir : Option Addr) (er : Nat) (ids : List Int) (hx : a.eval x = .slice ir ids.length er) (he : ir = none → er = 0) (hI : IdsAt w y ir ids) (hk : ids.length ≤ 6) (hbase : base ≤ w.heap.size)
    (h : ∀ v' w', w'.ownsRow base 2 1 v' ids.length (intL ids) → w.grownBy w' (some g) → wpList Tryd.prog ops Q rest (a.put o.dst v') w') : wpList Tryd.prog ops Q (o :: rest) a w := by
  obtain ⟨i0, hinf, hz0, hz1, hz2⟩ := info_parts info_i64
  rcases hI with ⟨rfl, rfl⟩ | ⟨b, rfl, _, hl, hc⟩
  · obtain rfl := he rfl
    have hr := run_append_nilR (P := Tryd.prog) w 26 o.type 2 i0 Tryd.underlying26 hinf g
    refine wpList_plain hgd fun _ hK => ?_
    unfold Oper.wp execOp
    simp only [List.length_nil] at hx
    simp only [ho, resolve, invoke, builtin, Sem.run_bind, Sem.run_pure, Result.andThen_ok, List.map_toArray, List.map_cons, List.map_nil, hs, hx, hr]
    exact hK _ _ (h _ _ hown ⟨rfl, rfl, rfl, Nat.le_refl _, fun _ _ _ => rfl⟩)
  · have hm : 6 ≤ maxLen := by decide +kernel
    refine wpList_append_own w hgd s x 26 ho base 2 i0 (.int .i64 0) 1 8 Tryd.underlying26 hinf hz0 hz1 hz2 rfl (by decide) _ 0 [] hs hown ⟨b, 0, none⟩ ids.length er (intL ids) hx (by rw [intL_len, Nat.mul_one]) (intL_at hc) (fun u hu => intL_cell hu) (by omega) (by omega) hbase ?_
    intro v' w' h2 h3 _
    rw [Nat.zero_add, List.nil_append] at h2
    exact h v' w' h2 h3

theorem own_form {w : World} {B n m : Nat} {t : TypeId} {v : Value} {xs : List Value} (h : w.ownsRow B t m v n xs) : ∃ a cap, v = .slice a n cap := by
  rcases h.2 with ⟨h1, h0⟩ | ⟨g, c', cur, e, _⟩
  · exact ⟨none, 0, by rw [h1, h0]⟩
  · exact ⟨_, _, e⟩
theorem gxSet {w w1 : World} {x : Nat} (h : w.grownBy w1 (some x)) (o : Nat) (y : Value) : w.grownBy (w1.setCell ⟨x, o, none⟩ y) (some x) := grownSet h o y
theorem gxAlloc {w w1 : World} {x : Nat} (h : w.grownBy w1 (some x)) (o : Obj) : w.grownBy (w1.alloc o) (some x) := ⟨h.os, h.tape, h.output, Nat.le_trans h.size (by simp), fun k hk hn => (Below.heap_alloc w1 o k (Nat.lt_of_lt_of_le hk h.size)).trans (h.block k hk hn)⟩
theorem gxNew {w w1 w2 : World} {x g : Nat} (h : w.grownBy w1 (some x)) (hg : w1.grownBy w2 (some g)) (hb : w.heap.size ≤ g) : w.grownBy w2 (some x) := ⟨hg.os.trans h.os, hg.tape.trans h.tape, hg.output.trans h.output, Nat.le_trans h.size hg.size, fun k hk hn => (hg.block k (Nat.lt_of_lt_of_le hk h.size) (fun e => by have := Option.some.inj e; omega)).trans (h.block k hk hn)⟩
theorem gxTrans {w w1 w2 : World} {x : Nat} (h : w.grownBy w1 (some x)) (hg : w1.grownBy w2 (some x)) : w.grownBy w2 (some x) := ⟨hg.os.trans h.os, hg.tape.trans h.tape, hg.output.trans h.output, Nat.le_trans h.size hg.size, fun k hk hn => (hg.block k (Nat.lt_of_lt_of_le hk h.size) hn).trans (h.block k hk hn)⟩
theorem SeAt.grown {w w' : World} {b : Nat} {v0 v1 v2 : Value} {c m : Int} {row : Option Nat} (h : SeAt w b v0 v1 v2 c m) (hg : w.grownBy w' row) (hne : some b ≠ row) : SeAt w' b v0 v1 v2 c m := ⟨cellG5 h.1 hg hne, cellG5 h.2.1 hg hne, cellG5 h.2.2.1 hg hne, cellG5 h.2.2.2.1 hg hne, cellG5 h.2.2.2.2 hg hne⟩
theorem FreeX.grown {w w' : World} {b : Nat} {row : Option Nat} (h : FreeX w b) (hb : b < w.heap.size) (hg : w.grownBy w' row) (hne : some b ≠ row) : FreeX w' b := fun i => by
  have h1 := h i
  unfold World.frozen? at h1 ⊢
  rw [hg.block b hb hne]
  exact h1
theorem seAt_34 {w : World} {b : Nat} {v0 v1 v2 : Value} {c m : Int} (h : SeAt w b v0 v1 v2 c m) (c' m' : Int) : SeAt ((w.setCell ⟨b, 3, none⟩ (.int .i64 c')).setCell ⟨b, 4, none⟩ (.int .i64 m')) b v0 v1 v2 c' m' := by
  obtain ⟨h0, h1, h2, h3, h4⟩ := h
  refine ⟨?_, ?_, ?_, ?_, ?_⟩ <;> simp [go_sem, h0, h1, h2, h3, h4]
theorem seAt_24 {w : World} {b : Nat} {v0 v1 v2 : Value} {c m : Int} (h : SeAt w b v0 v1 v2 c m) (v' : Value) (m' : Int) : SeAt ((w.setCell ⟨b, 2, none⟩ v').setCell ⟨b, 4, none⟩ (.int .i64 m')) b v0 v1 v' c m' := by
  obtain ⟨h0, h1, h2, h3, h4⟩ := h
  refine ⟨?_, ?_, ?_, ?_, ?_⟩ <;> simp [go_sem, h0, h1, h2, h3, h4]
theorem seSt_mk {w w' : World} {x : Nat} {L : List St} {S : List D3} {ar br : Option Addr} {cr dr : Nat} {s s' : SeN} {v' : Value} (h : SeSt w x L S ar br cr dr s) (hg : w.grownBy w' (some x)) (hc : SeAt w' x (.slice ar L.length cr) (.slice br S.length dr) v' (s'.count : Int) (s'.many : Int)) (ho : w'.ownsRow (x + 1) 2 1 v' s'.best.length (intL s'.best)) (hf : FreeX w' x) : SeSt w' x L S ar br cr dr s' :=
  ⟨⟨v', hc, ho⟩, hf, starsG h.stars hg h.apS, dirsG h.dirs hg h.apD, h.apS, h.apD⟩

set_option maxHeartbeats 4000000 in
set_option maxRecDepth 100000 in
theorem from_leaf (L : List St) (S : List D3) (ar br : Option Addr) (cr dr x : Nat) (hm6 : S.length ≤ 6) (ids : List Int) (s : SeN) (ir : Option Addr) (er : Nat) (w : World) (hl : ids.length + 0 = S.length) (hmany : s.many + 1 ≤ 100000000) (hc6 : s.count ≤ 6) (he : ir = none → er = 0) (hI : IdsAt w x ir ids) (hst : SeSt w x L S ar br cr dr s) (hp : ¬ cntN ids + 0 < s.count) :
    Calls Tryd.prog 38 #[.pointer (some ⟨x, 0, none⟩), .slice ir ids.length er, .int .i64 (cntN ids : Int)] w fun e w' => (∃ v, e = .returned v) ∧ SeSt w' x L S ar br cr dr (fromN (fitF L S) (L.map (·.1)) 0 ids s) ∧ w.grownBy w' (some x) := by
  obtain ⟨bst, ct, mn⟩ := s
  dsimp only at hmany hc6 hp
  have HS := hide hst
  have HI := hide hI
  have HF := hide (fromN_leaf (F := fitF L S) (A := L.map (·.1)) (s := ⟨bst, ct, mn⟩) hp)
  obtain ⟨⟨v, h1, h2⟩, hf, hs, hd, a1, a2⟩ := hst
  dsimp only at h1
  obtain ⟨c0, c1, c2, c3, c4⟩ := h1
  have r1 := cell_regrown c1
  have r3 := cell_regrown c3
  have hc := cntN_le ids
  obtain ⟨cn, hcn⟩ : ∃ cn, cntN ids = cn := ⟨_, rfl⟩
  have HCN := hide hcn
  rw [hcn] at hp hc ⊢
  clear hcn
  by_cases hgt : ct < cn
  · have hk6 : ids.length ≤ 6 := by omega
    have HE := hide he
    have HKM : Hid (S.length = ids.length) := hide (by omega)
    clear h2 hf hs hd a1 a2 c0 c1 c2 c3 c4 hI he
    rw [unhide HKM] at r1
    have hq : ¬ (cn : Int) < (ct : Int) := by omega
    go_enter Tryd.func38, Tryd.ntmps38
    go_wp2_with fail
    refine wp_region_quiet_below (by kernel_rfl) (by kernel_rfl) ?_
    repeat (go_big_quiet_step (fail))
    refine wpQuiet_nil ?_
    intro _ hw'
    obtain ⟨⟨dq, osq⟩, hw''⟩ := hw'
    subst hw''
    have hx := below_regrown w dq osq
    generalize grow (redrawn w dq) osq = w1 at hx ⊢
    have S1 := hide ((unhide HS).kept hx)
    have I1 := hide ((unhide HI).grown (grownB1 hx))
    have B1 := hide hx
    clear hx r1 r3 HS HI hq
    obtain ⟨⟨v, h1, h2⟩, hf, hs, hd, a1, a2⟩ := unhide S1
    dsimp only at h1
    have H1 := hide h1
    have HFr := hide hf
    have hxl := h1.lt
    obtain ⟨c0, c1, c2, c3, c4⟩ := h1
    rw [unhide HKM] at c1
    have f2 := hf 2
    have f3 := hf 3
    have f4 := hf 4
    clear hf hs hd a1 a2 h2
    have hgt' : (ct : Int) < (cn : Int) := by omega
    have HO : Hid (stepSe ⟨bst, ct, mn⟩ ids = ⟨ids, cn, 1⟩) := hide (by unfold stepSe; rw [unhide HCN, if_pos hgt])
    have hz : ((w1.setCell ⟨x, 3, none⟩ (.int .i64 (cn : Int))).setCell ⟨x, 4, none⟩ (.int .i64 0)).heap.size = w1.heap.size := by simp
    have HN : Hid ((((w1.setCell ⟨x, 3, none⟩ (.int .i64 (cn : Int))).setCell ⟨x, 4, none⟩ (.int .i64 0)).alloc (.cells #[] 2)).ownsRow (x + 1) 2 1 (.slice (some ⟨w1.heap.size, 0, none⟩) 0 0) 0 []) := hide (by have := ownI_none ((w1.setCell ⟨x, 3, none⟩ (.int .i64 (cn : Int))).setCell ⟨x, 4, none⟩ (.int .i64 0)) (x + 1) (by omega); rw [hz] at this; exact this)
    have HG2 : Hid (w1.grownBy (((w1.setCell ⟨x, 3, none⟩ (.int .i64 (cn : Int))).setCell ⟨x, 4, none⟩ (.int .i64 0)).alloc (.cells #[] 2)) (some x)) := hide (gxAlloc (gxSet (gxSet (grownRefl w1 (some x)) _ _) _ _) _)
    have I2 := hide ((unhide I1).grown (unhide HG2))
    have A2 := hide ((seAt_34 (unhide H1) (cn : Int) 0).kept (below1 _ (.cells #[] 2)))
    have F2 := hide ((((unhide HFr).set ⟨x, 3, none⟩ (.int .i64 (cn : Int))).set ⟨x, 4, none⟩ (.int .i64 0)).kept (by omega) (below1 _ (.cells #[] 2)))
    go_wp2_with (at_builtin; refine wpList_copyIds _ rfl _ _ rfl (x + 1) w1.heap.size rfl (unhide HN) x ir er ids rfl (unhide HE) (unhide I2) hk6 ?d1 ?_)
    case d1 => simp; omega
    intro v' w3 ho hg
    obtain ⟨av, cv, rfl⟩ := own_form ho
    have A3 := hide ((unhide A2).grown hg (fun e => by have := Option.some.inj e; omega))
    have F3 := hide ((unhide F2).grown (unhide A2).lt hg (fun e => by have := Option.some.inj e; omega))
    have G3 := hide (gxNew (unhide HG2) hg (Nat.le_refl _))
    have O3 := hide ho
    clear ho hg c0 c1 c2 c3 c4 f2 f3 f4 HN HG2 I2 A2 F2 hz
    obtain ⟨c0, c1, c2, c3, c4⟩ := unhide A3
    have f2 := unhide F3 2
    have f4 := unhide F3 4
    go_wp2_with fail
    refine bodyPost_ret (results_none rfl _ _ _) rfl ?_
    have G4 := gxSet (gxSet (unhide G3) 2 (.slice av ids.length cv)) 4 (.int .i64 1)
    refine ⟨⟨_, rfl⟩, ?_, gxTrans (grownB1 (unhide B1)) G4⟩
    rw [unhide HF, unhide HO]
    exact seSt_mk (unhide S1) G4 (seAt_24 (unhide A3) (.slice av ids.length cv) 1) (ownSetX (ownSetX (unhide O3) _ _) _ _) (((unhide F3).set _ _).set _ _)
  · obtain rfl : cn = ct := by omega
    have HO : Hid (stepSe ⟨bst, cn, mn⟩ ids = ⟨ids, cn, mn + 1⟩) := hide (by unfold stepSe; dsimp only; rw [unhide HCN, if_neg hgt, if_pos rfl])
    have HMN := hide (show (mn : Int) + 1 ≤ 100000000 by omega)
    clear hgt hp hmany
    have hk6 : ids.length ≤ 6 := by omega
    have HE := hide he
    have HKM : Hid (S.length = ids.length) := hide (by omega)
    clear h2 hf hs hd a1 a2 c0 c1 c2 c3 c4 hI he
    rw [unhide HKM] at r1
    go_enter Tryd.func38, Tryd.ntmps38
    go_wp2_with fail
    refine wp_region_quiet_below (by kernel_rfl) (by kernel_rfl) ?_
    repeat (go_big_quiet_step (fail))
    refine wpQuiet_nil ?_
    intro _ hw'
    obtain ⟨⟨dq, osq⟩, hw''⟩ := hw'
    subst hw''
    have hx := below_regrown w dq osq
    generalize grow (redrawn w dq) osq = w1 at hx ⊢
    have S1 := hide ((unhide HS).kept hx)
    have I1 := hide ((unhide HI).grown (grownB1 hx))
    have B1 := hide hx
    clear hx r1 r3 HS HI
    obtain ⟨⟨v, h1, h2⟩, hf, hs, hd, a1, a2⟩ := unhide S1
    dsimp only at h1
    have H1 := hide h1
    have HFr := hide hf
    have hxl := h1.lt
    obtain ⟨c0, c1, c2, c3, c4⟩ := h1
    rw [unhide HKM] at c1
    have f2 := hf 2
    have f3 := hf 3
    have f4 := hf 4
    clear hf hs hd a1 a2 h2
    have HN : Hid ((w1.alloc (.cells #[] 2)).ownsRow (x + 1) 2 1 (.slice (some ⟨w1.heap.size, 0, none⟩) 0 0) 0 []) := hide (ownI_none w1 (x + 1) (by omega))
    have HG2 : Hid (w1.grownBy (w1.alloc (.cells #[] 2)) (some x)) := hide (gxAlloc (grownRefl w1 (some x)) _)
    have I2 := hide ((unhide I1).grown (unhide HG2))
    have A2 := hide ((unhide H1).kept (below1 _ (.cells #[] 2)))
    have F2 := hide ((unhide HFr).kept hxl (below1 _ (.cells #[] 2)))
    go_wp2_with (at_builtin; refine wpList_copyIds _ rfl _ _ rfl (x + 1) w1.heap.size rfl (unhide HN) x ir er ids rfl (unhide HE) (unhide I2) hk6 ?d1 ?_)
    case d1 => simp; omega
    intro v' w3 ho hg
    obtain ⟨av, cv, rfl⟩ := own_form ho
    have A3 := hide ((unhide A2).grown hg (fun e => by have := Option.some.inj e; omega))
    have F3 := hide ((unhide F2).grown (unhide A2).lt hg (fun e => by have := Option.some.inj e; omega))
    have G3 := hide (gxNew (unhide HG2) hg (Nat.le_refl _))
    have O3 := hide ho
    clear ho hg c0 c1 c2 c3 c4 f2 f3 f4 HN HG2 I2 A2 F2
    obtain ⟨c0, c1, c2, c3, c4⟩ := unhide A3
    have hmn := unhide HMN
    have hmn0 : (0 : Int) ≤ (mn : Int) := by omega
    generalize hmi : (mn : Int) = mi at *
    have f2 := unhide F3 2
    have f4 := unhide F3 4
    go_wp2_with fail
    subst hmi
    refine bodyPost_ret (results_none rfl _ _ _) rfl ?_
    have G4 := gxSet (gxSet (unhide G3) 2 (.slice av ids.length cv)) 4 (.int .i64 ((mn : Int) + 1))
    refine ⟨⟨_, rfl⟩, ?_, gxTrans (grownB1 (unhide B1)) G4⟩
    rw [unhide HF, unhide HO]
    exact seSt_mk (unhide S1) G4 (seAt_24 (unhide A3) (.slice av ids.length cv) ((mn : Int) + 1)) (ownSetX (ownSetX (unhide O3) _ _) _ _) (((unhide F3).set _ _).set _ _)
end Go.Proofs.YtjdehbpgdplolaaDoor
