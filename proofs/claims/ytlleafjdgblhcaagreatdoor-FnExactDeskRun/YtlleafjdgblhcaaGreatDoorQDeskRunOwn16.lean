/- Several texts in one: IeS. -/
import Derived.Test.YtlleafjdgblhcaaGreatDoorQDeskRunOwn15
namespace Go.Proofs.YtlleafjdgblhcaaGreatDoor
set_option linter.unusedVariables false
set_option linter.unusedSimpArgs false
set_option maxRecDepth 100000
set_option maxHeartbeats 8000000
section
open Go.RowKit Go.Sort Go.Shelf
attribute [local go_sem] Oper.semAt_some
theorem Co (a : Int) : wrap64 (wrap64 a + 1) = wrap64 (a + 1) := by unfold wrap64; omega
theorem zG (a : Nat) : wrap64 (wrap64 (a : Int) + 1) = wrap64 ((a + 1 : Nat) : Int) := by rw [Co]; rfl
theorem kn {W : World} {p : Nat} {v : Value} {t : TypeId} (h : W.heap[p]? = some (.cells #[v] t (0, 0))) : W.cell? ⟨p, 0, none⟩ = some v ∧ W.frozen? ⟨p, 0, none⟩ = false := by
 constructor <;> simp [World.cell?, World.frozen?, h]
theorem yC {p q l : Nat} {W : World} {o o' : Obj} (h : W.heap[l]? = some o) (h1 : o.isCells = false) (h2 : o.isWalk = false) : KpX p q W (W.putObj l o') :=
 ⟨by simp, rfl, rfl, rfl, fun k ob hk ho _ _ => by
  have hne : k ≠ l := fun e => by subst e; rw [h] at hk; cases hk; rcases ho with ho | ho <;> simp_all
  exact (World.putObj_heap_other hne).trans hk⟩
theorem th {p q x : Nat} (W : World) (v : Value) (hx : x = p ∨ x = q) : KpX p q W (W.setCell ⟨x, 0, none⟩ v) :=
 ⟨by simp, rfl, rfl, rfl, fun k o hk _ h1 h2 => by rw [Below.heap_setCell W ⟨x, 0, none⟩ v k (by show k ≠ x; rcases hx with rfl | rfl <;> assumption)]; exact hk⟩
theorem ts {W : World} {x : Nat} {u : Value} {t : TypeId} (h : W.heap[x]? = some (.cells #[u] t (0, 0))) (v : Value) : (W.setCell ⟨x, 0, none⟩ v).heap[x]? = some (.cells #[v] t (0, 0)) := by
 have := heap_setCell_same W x 0 #[u] t v h
 simpa using this
theorem gl {W : World} {x k : Nat} {o : Obj} (h : W.heap[k]? = some o) (hne : k ≠ x) (v : Value) : (W.setCell ⟨x, 0, none⟩ v).heap[k]? = some o := by rw [Below.heap_setCell W ⟨x, 0, none⟩ v k hne]; exact h
theorem tO {W : World} {x g m : Nat} {t : TypeId} {f : Nat → Value} (h : cH W t g m f) (hne : g ≠ x) (v : Value) : cH (W.setCell ⟨x, 0, none⟩ v) t g m f := by
 obtain ⟨cur, hc, hr⟩ := h
 exact ⟨cur, gl hc hne v, hr⟩
theorem mX {p q l d : Nat} {rec rb : Loop} {w W V V' : World} {pre : List (List Int)} {xi : List Int} (hJ : GrJ p q l d rec w pre W) (hV : W.putObj l (.loop rb) = V) (hrb : ({ rb with state := .ready, pending := none } : Loop) = rec) (hlw : w.heap.size ≤ l) (hld : l ≠ d)
  (hb : vj V' p q (de (pre.foldl de ([], 0)) xi)) (hl : V'.heap[l]? = some (.loop rb)) (hd : V'.heap[d]? = some (.deferred (some []))) (hB : Below w.heap.size V V') (hk : KpX p q V V') :
  ∃ v w', (Instr.endRound l none).run Tryz.prog V' = .ok v w' ∧ (Ending.returned v = .returned (.bool true) ∧ GrJ p q l d rec w (pre ++ [xi]) w' ∧ KpX p q W w') := by
 have he := run_endRound (P := Tryz.prog) none hl
 have hrb' : ({ rb with state := if (none : Option Code).isNone then .ready else .done, pending := none } : Loop) = rec := hrb
 rw [hrb'] at he
 have hg := grownBy_putObj' V' l (.loop rec)
 have hnc : ∀ k cs t f, V'.heap[k]? = some (.cells cs t f) → some k ≠ some l := fun k cs t f hk e => by have := Option.some.inj e; rw [this, hl] at hk; cases hk
 refine ⟨_, _, he, rfl, ⟨?_, World.putObj_heap_same (Array.getElem?_eq_some_iff.1 hl).1, ck hd hg (fun e => hld (Option.some.inj e).symm), ?_⟩, ?_⟩
 ·rw [List.foldl_append]
  exact hb.grown hg hnc
 ·have b1 : Below w.heap.size W V := hV ▸ ((Below.refl w.heap.size W).grown (grownBy_putObj' W l (.loop rb)) hJ.bel.size (fun k e => by cases e; exact hlw))
  exact ((hJ.bel.trans b1).trans hB).trans ((Below.refl w.heap.size V').grown hg (Nat.le_trans hJ.bel.size (Nat.le_trans b1.size hB.size)) (fun k e => by cases e; exact hlw))
 ·have k1 : KpX p q W V := hV ▸ yC hJ.rc rfl rfl
  exact (k1.trans hk).trans (yC hl rfl rfl)
theorem ud (L : List St) (S : List D3) (ar br : Option Addr) (cr dr s1 s2 : Nat) (w : World) (hk : aV L = true) (hm : S.length ≤ 6) (h1 : w.cell? ⟨s1, 0, none⟩ = some (.slice ar L.length cr)) (h2 : w.cell? ⟨s2, 0, none⟩ = some (.slice br S.length dr)) (hS : aR w ar L L.length) (hD : cf w br S S.length) (hA : ∀ y, ar = some y → y.block < w.heap.size) (hB : ∀ y, br = some y → y.block < w.heap.size) (n : Nat) :
  CallsIn Fence.wide n Tryz.prog 128 #[.func (.func 150) #[] #[.pointer (some ⟨s1, 0, none⟩), .pointer (some ⟨s2, 0, none⟩)]] w fun e w' => (∃ v, e = .returned (.tuple #[v, .int .i64 (wrap64 ((dk L S).2 : Int))]) ∧ (((dk L S).1 = [] ∧ v = .slice none 0 0) ∨ ∃ g, v = .slice (some ⟨g, 0, none⟩) (dk L S).1.length (dk L S).1.length ∧ w.heap.size ≤ g ∧ cH w' 2 g ((dk L S).1.length * 1) (qJ (dk L S).1))) ∧ Below w.heap.size w w' ∧ (dk L S).1.length ≤ 6 := by
 refine callsIn_of_wp_marks Tryz.func128 rfl trivial ?_ rfl
 simp only [Tryz.ntmps128, List.size_toArray, List.length_cons, List.length_nil, Nat.reduceAdd, Nat.reduceSub, Array.replicate_succ, Array.replicate_zero, List.push_toArray, List.append_toArray, List.nil_append, List.cons_append]
 gi_wp2
 have B0 := aO w (.cells #[.slice none 0 0] 67) (.cells #[.int .i64 0] 2)
 have hz0 : ((w.alloc (.cells #[.slice none 0 0] 67)).alloc (.cells #[.int .i64 0] 2)).heap.size = w.heap.size + 2 := by simp
 have hp0 : ((w.alloc (.cells #[.slice none 0 0] 67)).alloc (.cells #[.int .i64 0] 2)).heap[w.heap.size]? = some (.cells #[.slice none 0 0] 67 (0, 0)) := (Below.heap_alloc _ _ _ (by simp)).trans (World.alloc_heap_new w _)
 have hq0 : ((w.alloc (.cells #[.slice none 0 0] 67)).alloc (.cells #[.int .i64 0] 2)).heap[w.heap.size + 1]? = some (.cells #[.int .i64 0] 2 (0, 0)) := by
  have := World.alloc_heap_new (w.alloc (.cells #[.slice none 0 0] 67)) (.cells #[.int .i64 0] 2)
  rw [World.size_alloc] at this
  exact this
 generalize hW0 : (w.alloc (.cells #[.slice none 0 0] 67)).alloc (.cells #[.int .i64 0] 2) = W0 at *
 clear hW0
 refine ye rfl (enters_of Tryz.func150 (by kernel_rfl) rfl) ?_
 intro rec hst hpe htm hpa has hbo
 have B1 : Below W0.heap.size W0 ((W0.alloc (.deferred (some []))).alloc (.loop rec)) := aO W0 _ _
 have hz1 : ((W0.alloc (.deferred (some []))).alloc (.loop rec)).heap.size = w.heap.size + 4 := by simp; omega
 have hl1 : ((W0.alloc (.deferred (some []))).alloc (.loop rec)).heap[W0.heap.size + 1]? = some (.loop rec) := by
  have := World.alloc_heap_new (W0.alloc (.deferred (some []))) (.loop rec)
  rw [World.size_alloc] at this
  exact this
 have hd1 : ((W0.alloc (.deferred (some []))).alloc (.loop rec)).heap[W0.heap.size]? = some (.deferred (some [])) := (Below.heap_alloc _ _ _ (by simp)).trans (World.alloc_heap_new W0 _)
 generalize hW1 : (W0.alloc (.deferred (some []))).alloc (.loop rec) = W1 at *
 clear hW1
 rw [hz0] at hl1 hd1 ⊢
 have Bw := ak B0 B1
 have Jst : GrJ w.heap.size (w.heap.size + 1) (w.heap.size + 2 + 1) (w.heap.size + 2) rec w [] W1 := ⟨⟨⟨_, by rw [B1.block _ (by omega)]; exact hp0, .inl ⟨rfl, rfl⟩⟩, by rw [B1.block _ (by omega), hq0]; exact congrArg (fun z => some (Obj.cells #[Value.int .i64 z] 2 (0, 0))) (show (0 : Int) = wrap64 0 from (aq (by omega) (by omega)).symm), by simp⟩, hl1, hd1, Bw⟩
 refine (Dp L S ar br cr dr (w.heap.size + 2 + 1) w.heap.size (w.heap.size + 1) s1 s2 (n - 1) (GrJ w.heap.size (w.heap.size + 1) (w.heap.size + 2 + 1) (w.heap.size + 2) rec w) W1 hk hm (bq h1 Bw) (bq h2 Bw) (hS.kept Bw) (hD.kept Bw) (fun y e => by have := hA y e; omega) (fun y e => by have := hB y e; omega) (by omega) (by omega) (fun b hb => GrJ.abides (by omega)) GrJ.below ?round Jst).mono ?behind
 case round =>
  clear Jst B1 Bw hl1 hd1 hp0 hq0 B0
  intro m pre x W hJ hW0 hx hlen
  obtain ⟨xi, xg⟩ := x
  unfold El at hx
  unfold Ea
  dsimp only at hx hlen hW0 ⊢
  have hfar : w.heap.size ≤ xg := by
   obtain ⟨W0', hJ0, h0⟩ := hW0
   have := (Array.getElem?_eq_some_iff.1 hJ0.rc).1
   omega
  clear hW0
  refine ⟨rec.fn, _, rec.assign, rec.body, run_yield hJ.rc (by rw [hpa]; rfl), roundIn_of_wpIn trivial ?_⟩
  rw [has, hbo, htm, hpa]
  have hW2 := hJ.rc
  have hbeg := run_beginRound (P := Tryz.prog) hJ.rc hst
  have hG2 := grownBy_putObj' W (w.heap.size + 2 + 1) (.loop { rec with state := .busy })
  have hnc : ∀ k cs t f, W.heap[k]? = some (.cells cs t f) → some k ≠ some (w.heap.size + 2 + 1) := fun k cs t f hk e => by have := Option.some.inj e; rw [this, hJ.rc] at hk; cases hk
  have hBx := hJ.box.grown hG2 hnc
  have hX2 : cH (W.putObj (w.heap.size + 2 + 1) (.loop { rec with state := .busy })) 2 xg (xi.length * 1) (qJ xi) := by obtain ⟨cur, hc, hr⟩ := hx; exact ⟨cur, ck hc hG2 (hnc _ _ _ _ hc), hr⟩
  have hl2 : (W.putObj (w.heap.size + 2 + 1) (.loop { rec with state := .busy })).heap[w.heap.size + 2 + 1]? = some (.loop { rec with state := .busy }) := World.putObj_heap_same (Array.getElem?_eq_some_iff.1 hJ.rc).1
  have HBx := yz hBx
  have HX := yz hX2
  have HL2 := yz hl2
  have HJ := yz hJ
  have HG2 := yz hG2
  have HRB : Hid (({ ({ rec with state := .busy } : Loop) with state := .ready, pending := none } : Loop) = rec) := yz (by cases rec; simp_all)
  clear hBx hX2 hl2 hJ hx hnc hG2 hW2 has hbo htm hpa hpe hst
  generalize hrb : ({ rec with state := .busy } : Loop) = rb at *
  clear hrb
  have cN := yz (fun (j : Nat) => CallsIn.inRound (w.heap.size + 2 + 1) ((callsIn_wide (n := j)).2 (fP xi (some ⟨xg, 0, none⟩) xi.length _ (by omega) (mb (yy HX)))))
  gi_wp2
  refine ⟨trivial, fun h => (by cases h), ?_⟩
  refine (yy cN _).mono ?_
  rintro e V1 ⟨rfl, hV1⟩
  generalize hV : W.putObj (w.heap.size + 2 + 1) (.loop rb) = V at *
  subst hV1
  obtain ⟨G, hG⟩ : ∃ G, pre.foldl de ([], 0) = G := ⟨_, rfl⟩
  rw [hG] at HBx
  have HG := yz hG
  clear hG hbeg cN
  obtain ⟨Gm, Ga⟩ := G
  obtain ⟨⟨vm, hvm, hmost⟩, halike, hlenG⟩ := yy HBx
  dsimp only at hmost halike hlenG
  have HD2 : Hid (V1.heap[w.heap.size + 2]? = some (.deferred (some []))) := yz (by rw [← hV]; exact ck (yy HJ).df (grownBy_putObj' W _ _) (fun e => by have := Option.some.inj e; omega))
  have hV1s : w.heap.size + 4 ≤ V1.heap.size := by have := (Array.getElem?_eq_some_iff.1 (yy HL2)).1; omega
  obtain ⟨am, cm, hvf, hnm⟩ : ∃ am cm, vm = .slice am Gm.length cm ∧ gx V1 am Gm Gm.length := by
   rcases hmost with ⟨e1, e2⟩ | ⟨g, e, _, _, _, hr⟩
   ·exact ⟨none, 0, by rw [e1, e2]; rfl, .inl (by rw [e1]; rfl)⟩
   ·exact ⟨_, _, e, mb hr⟩
  subst hvf
  have HM := yz hmost
  have HVM := yz hvm
  have HAL := yz halike
  obtain ⟨m0, m1⟩ := kn hvm
  obtain ⟨a0, a1⟩ := kn halike
  have cM := yz (fun (j : Nat) => CallsIn.inRound (w.heap.size + 2 + 1) ((callsIn_wide (n := j)).2 (fP Gm am cm V1 (by omega) hnm)))
  have HSame : Hid (de (Gm, Ga) xi = (Gm, Ga) → ∃ v w', (Instr.endRound (w.heap.size + 2 + 1) none).run Tryz.prog V1 = .ok v w' ∧ (Ending.returned v = .returned (.bool true) ∧ GrJ w.heap.size (w.heap.size + 1) (w.heap.size + 2 + 1) (w.heap.size + 2) rec w (pre ++ [xi]) w' ∧ KpX w.heap.size (w.heap.size + 1) W w')) := yz (fun e => mX (yy HJ) hV (yy HRB) (by omega) (by omega) (by rw [yy HG, e]; exact yy HBx) (yy HL2) (yy HD2) (Below.refl _ _) ⟨Nat.le_refl _, rfl, rfl, rfl, fun _ _ h _ _ _ => h⟩)
  clear hmost hvm halike hnm
  by_cases c3 : aQ xi < 3
  ·have c3' : (aQ xi : Int) < 3 := by omega
   gi_wp2
   refine ⟨trivial, ?_⟩
   gi_wp2
   exact yy HSame (by unfold de; rw [if_pos (.inl c3)])
  have c3' : ¬ (aQ xi : Int) < 3 := by omega
  gi_wp2
  refine ⟨trivial, fun h => (by cases h), ?_⟩
  refine (yy cM _).mono ?_
  rintro e V2 ⟨rfl, hV2⟩
  rw [hV2]
  clear hV2 V2
  by_cases c4 : aQ xi < aQ Gm
  ·have c4' : (aQ xi : Int) < (aQ Gm : Int) := by omega
   gi_wp2
   exact yy HSame (by unfold de; rw [if_pos (.inr c4)])
  have c4' : ¬ (aQ xi : Int) < (aQ Gm : Int) := by omega
  gi_wp2
  refine ⟨trivial, fun h => (by cases h), ?_⟩
  refine (yy cM _).mono ?_
  rintro e V2 ⟨rfl, hV2⟩
  rw [hV2]
  clear hV2 V2
  have hxl : 3 ≤ xi.length := by have := kO xi; omega
  have hxp : xg ≠ w.heap.size := fun e => by
   obtain ⟨cur, hc, _⟩ := yy HX
   have h5 := yy HVM
   rw [← e, hc] at h5
   simp at h5
  have hxq : xg ≠ w.heap.size + 1 := fun e => by
   obtain ⟨cur, hc, hr⟩ := yy HX
   have h5 := yy HAL
   rw [← e, hc] at h5
   simp at h5
   have h6 := hr 1 (by omega)
   rw [h5] at h6
   simp at h6
  by_cases c5 : aQ Gm < aQ xi
  ·have c5' : (aQ Gm : Int) < (aQ xi : Int) := by omega
   gi_wp2
   have hst : de (Gm, Ga) xi = (xi, 1) := by unfold de; dsimp only; rw [if_neg (by rintro (h | h) <;> omega), if_pos c5]
   refine mX (yy HJ) hV (yy HRB) (by omega) (by omega) ?_ (gl (gl (yy HL2) (by omega) _) (by omega) _) (gl (gl (yy HD2) (by omega) _) (by omega) _) (((Below.refl w.heap.size V1).setCell (p := ⟨w.heap.size, 0, none⟩) (Nat.le_refl _) _).setCell (p := ⟨w.heap.size + 1, 0, none⟩) (by show w.heap.size ≤ w.heap.size + 1; omega) _) ((th V1 _ (.inl rfl)).trans (th _ _ (.inr rfl)))
   rw [yy HG, hst]
   refine ⟨⟨_, gl (ts (yy HVM) _) (by omega) _, .inr ⟨xg, rfl, hfar, hxp, hxq, tO (tO (yy HX) hxp _) hxq _⟩⟩, ?_, hlen⟩
   have h7 := ts (gl (x := w.heap.size) (yy HAL) (by omega) (Value.slice (some ⟨xg, 0, none⟩) xi.length xi.length)) (Value.int .i64 1)
   rw [show wrap64 (((xi, 1) : List Int × Nat).2 : Int) = 1 from aq (n := 1) (by omega) (by omega)]
   exact h7
  ·have c5' : ¬ (aQ Gm : Int) < (aQ xi : Int) := by omega
   gi_wp2
   have hst : de (Gm, Ga) xi = (Gm, Ga + 1) := by unfold de; dsimp only; rw [if_neg (by rintro (h | h) <;> omega), if_neg c5]
   refine mX (yy HJ) hV (yy HRB) (by omega) (by omega) ?_ (gl (yy HL2) (by omega) _) (gl (yy HD2) (by omega) _) ((Below.refl w.heap.size V1).setCell (p := ⟨w.heap.size + 1, 0, none⟩) (by show w.heap.size ≤ w.heap.size + 1; omega) _) (th V1 _ (.inr rfl))
   rw [yy HG, hst]
   refine ⟨⟨_, gl (yy HVM) (by omega) _, ?_⟩, ?_, hlenG⟩
   ·rcases yy HM with h | ⟨g, e, n0, n1, n2, hr⟩
    ·exact .inl h
    ·exact .inr ⟨g, e, n0, n1, n2, tO hr n2 _⟩
   ·have h7 := ts (yy HAL) (Value.int .i64 (wrap64 (wrap64 (Ga : Int) + 1)))
    rw [h7]
    have e8 : wrap64 (wrap64 (Ga : Int) + 1) = wrap64 (((Gm, Ga + 1) : List Int × Nat).2 : Int) := by
     show wrap64 (wrap64 (Ga : Int) + 1) = wrap64 ((Ga + 1 : Nat) : Int)
     exact zG Ga
    rw [e8]
 case behind =>
  rintro e W' ⟨⟨v, rfl⟩, hJ⟩
  refine ⟨⟨_, rfl⟩, hJ.rc, ?_⟩
  have hne : ∀ k cs t f, W'.heap[k]? = some (.cells cs t f) → some k ≠ some (w.heap.size + 2 + 1) := fun k cs t f hk e => by have := Option.some.inj e; rw [this, hJ.rc] at hk; cases hk
  have hBx := fun o => hJ.box.grown (grownBy_putObj' W' (w.heap.size + 2 + 1) o) hne
  have HBx := yz hBx
  have HDf := yz (fun o => ck hJ.df (grownBy_putObj' W' (w.heap.size + 2 + 1) o) (fun e => by have := Option.some.inj e; omega))
  have HBl := yz (fun o => hJ.bel.trans ((Below.refl w.heap.size W').grown (grownBy_putObj' W' (w.heap.size + 2 + 1) o) hJ.bel.size (fun k e => by cases e; omega)))
  obtain ⟨⟨vm, hvm, hmost⟩, halike, hlen6⟩ := hJ.box
  have m0 := fun o => (kn (ck hvm (grownBy_putObj' W' (w.heap.size + 2 + 1) o) (hne _ _ _ _ hvm))).1
  have a0 := fun o => (kn (ck halike (grownBy_putObj' W' (w.heap.size + 2 + 1) o) (hne _ _ _ _ halike))).1
  have HM := yz hmost
  have HNe := yz hne
  clear hBx hvm hmost halike hne hJ B1 Bw hl1 hd1 hp0 hq0 B0 Jst has hbo htm hpa hpe hst
  gi_wp2
  gi_region
  gi_wp2
  refine ⟨by simp, .inl ⟨w.heap.size + 2, _, rfl, run_takeDeferred (yy HDf _), ?_⟩⟩
  have HBy := yz (fun o => (yy HBl o).drew.trans ((Below.refl w.heap.size _).grown (grownBy_putObj' (W'.putObj (w.heap.size + 2 + 1) o).drew (w.heap.size + 2) (.deferred none)) (yy HBl o).size (fun k e => by cases e; omega)))
  refine ⟨_, by simp [results, go_sem]; rfl, ⟨vm, rfl, ?_⟩, yy HBy _, hlen6⟩
  rcases yy HM with h | ⟨g, e, n0, n1, n2, hr⟩
  ·exact .inl h
  ·refine .inr ⟨g, e, n0, ?_⟩
   obtain ⟨cur, hc, hr⟩ := hr
   have k1 := fun o => ck hc (grownBy_putObj' W' (w.heap.size + 2 + 1) o) (yy HNe _ _ _ _ hc)
   have hgd : g ≠ w.heap.size + 2 := fun e => by
    have h2 := yy HDf (.deferred none)
    have h3 := k1 (.deferred none)
    rw [e, h2] at h3
    cases h3
   have k2 : ∀ o, ((W'.putObj (w.heap.size + 2 + 1) o).drew.putObj (w.heap.size + 2) (.deferred none)).heap[g]? = some (.cells cur 2 (0, 0)) := fun o => (World.putObj_heap_other hgd).trans (k1 o)
   exact ⟨cur, k2 _, hr⟩
end
end Go.Proofs.YtlleafjdgblhcaaGreatDoor
