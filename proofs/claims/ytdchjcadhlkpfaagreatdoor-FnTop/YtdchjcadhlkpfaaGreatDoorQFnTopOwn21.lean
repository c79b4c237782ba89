/- Several texts in one: IeS, IeT, IeU, IeV, LkM, ModK. -/
import Derived.Test.YtdchjcadhlkpfaaGreatDoorQFnTopOwn20
import Derived.Test.YtdchjcadhlkpfaaGreatDoorQFnTopOwn4
import Derived.Test.YtdchjcadhlkpfaaGreatDoorQFnTopOwn17
import Derived.Test.YtdchjcadhlkpfaaGreatDoorQFnTopOwn18
import Derived.Test.YtdchjcadhlkpfaaGreatDoorQFnTopOwn3
namespace Go.Proofs.YtdchjcadhlkpfaaGreatDoor
set_option linter.unusedVariables false
set_option linter.unusedSimpArgs false
set_option maxRecDepth 100000
set_option maxHeartbeats 8000000
section
open Go.RowKit Go.Sort Go.Shelf
attribute [local go_sem] Oper.semAt_some
theorem tz (a : Int) : wrap64 (wrap64 a + 1) = wrap64 (a + 1) := by unfold wrap64; omega
theorem qA (a : Nat) : wrap64 (wrap64 (a : Int) + 1) = wrap64 ((a + 1 : Nat) : Int) := by rw [tz]; rfl
theorem fF {W : World} {p : Nat} {v : Value} {t : TypeId} (h : W.heap[p]? = some (.cells #[v] t (0, 0))) : W.cell? ⟨p, 0, none⟩ = some v ∧ W.frozen? ⟨p, 0, none⟩ = false := by
 constructor <;> simp [World.cell?, World.frozen?, h]
theorem qu {p q l : Nat} {W : World} {o o' : Obj} (h : W.heap[l]? = some o) (h1 : o.isCells = false) (h2 : o.isWalk = false) : KpX p q W (W.putObj l o') :=
 ⟨by simp, rfl, rfl, rfl, fun k ob hk ho _ _ => by
  have hne : k ≠ l := fun e => by subst e; rw [h] at hk; cases hk; rcases ho with ho | ho <;> simp_all
  exact (World.putObj_heap_other hne).trans hk⟩
theorem ml {p q x : Nat} (W : World) (v : Value) (hx : x = p ∨ x = q) : KpX p q W (W.setCell ⟨x, 0, none⟩ v) :=
 ⟨by simp, rfl, rfl, rfl, fun k o hk _ h1 h2 => by rw [Below.heap_setCell W ⟨x, 0, none⟩ v k (by show k ≠ x; rcases hx with rfl | rfl <;> assumption)]; exact hk⟩
theorem mS {W : World} {x : Nat} {u : Value} {t : TypeId} (h : W.heap[x]? = some (.cells #[u] t (0, 0))) (v : Value) : (W.setCell ⟨x, 0, none⟩ v).heap[x]? = some (.cells #[v] t (0, 0)) := by
 have := heap_setCell_same W x 0 #[u] t v h
 simpa using this
theorem dE {W : World} {x k : Nat} {o : Obj} (h : W.heap[k]? = some o) (hne : k ≠ x) (v : Value) : (W.setCell ⟨x, 0, none⟩ v).heap[k]? = some o := by rw [Below.heap_setCell W ⟨x, 0, none⟩ v k hne]; exact h
theorem mr {W : World} {x g m : Nat} {t : TypeId} {f : Nat → Value} (h : bt W t g m f) (hne : g ≠ x) (v : Value) : bt (W.setCell ⟨x, 0, none⟩ v) t g m f := by
 obtain ⟨cur, hc, hr⟩ := h
 exact ⟨cur, dE hc hne v, hr⟩
theorem iQ {p q l d : Nat} {rec rb : Loop} {w W V V' : World} {pre : List (List Int)} {xi : List Int} (hJ : GrJ p q l d rec w pre W) (hV : W.putObj l (.loop rb) = V) (hrb : ({ rb with state := .ready, pending := none } : Loop) = rec) (hlw : w.heap.size ≤ l) (hld : l ≠ d)
  (hb : og V' p q (bO (pre.foldl bO ([], 0)) xi)) (hl : V'.heap[l]? = some (.loop rb)) (hd : V'.heap[d]? = some (.deferred (some []))) (hB : Below w.heap.size V V') (hk : KpX p q V V') :
  ∃ v w', (Instr.endRound l none).run Tryz.prog V' = .ok v w' ∧ (Ending.returned v = .returned (.bool true) ∧ GrJ p q l d rec w (pre ++ [xi]) w' ∧ KpX p q W w') := by
 have he := run_endRound (P := Tryz.prog) none hl
 have hrb' : ({ rb with state := if (none : Option Code).isNone then .ready else .done, pending := none } : Loop) = rec := hrb
 rw [hrb'] at he
 have hg := grownBy_putObj' V' l (.loop rec)
 have hnc : ∀ k cs t f, V'.heap[k]? = some (.cells cs t f) → some k ≠ some l := fun k cs t f hk e => by have := Option.some.inj e; rw [this, hl] at hk; cases hk
 refine ⟨_, _, he, rfl, ⟨?_, World.putObj_heap_same (Array.getElem?_eq_some_iff.1 hl).1, bj hd hg (fun e => hld (Option.some.inj e).symm), ?_⟩, ?_⟩
 ·rw [List.foldl_append]
  exact hb.grown hg hnc
 ·have b1 : Below w.heap.size W V := hV ▸ ((Below.refl w.heap.size W).grown (grownBy_putObj' W l (.loop rb)) hJ.bel.size (fun k e => by cases e; exact hlw))
  exact ((hJ.bel.trans b1).trans hB).trans ((Below.refl w.heap.size V').grown hg (Nat.le_trans hJ.bel.size (Nat.le_trans b1.size hB.size)) (fun k e => by cases e; exact hlw))
 ·have k1 : KpX p q W V := hV ▸ qu hJ.rc rfl rfl
  exact (k1.trans hk).trans (qu hl rfl rfl)
theorem ng (L : List St) (S : List D3) (ar br : Option Addr) (cr dr s1 s2 : Nat) (w : World) (hk : be L = true) (hm : S.length ≤ 6) (h1 : w.cell? ⟨s1, 0, none⟩ = some (.slice ar L.length cr)) (h2 : w.cell? ⟨s2, 0, none⟩ = some (.slice br S.length dr)) (hS : aL w ar L L.length) (hD : bG w br S S.length) (hA : ∀ y, ar = some y → y.block < w.heap.size) (hB : ∀ y, br = some y → y.block < w.heap.size) (n : Nat) :
  CallsIn Fence.wide n Tryz.prog 142 #[.func (.func 164) #[] #[.pointer (some ⟨s1, 0, none⟩), .pointer (some ⟨s2, 0, none⟩)]] w fun e w' => (∃ v, e = .returned (.tuple #[v, .int .i64 (wrap64 ((bK L S).2 : Int))]) ∧ (((bK L S).1 = [] ∧ v = .slice none 0 0) ∨ ∃ g, v = .slice (some ⟨g, 0, none⟩) (bK L S).1.length (bK L S).1.length ∧ w.heap.size ≤ g ∧ bt w' 2 g ((bK L S).1.length * 1) (jX (bK L S).1))) ∧ Below w.heap.size w w' ∧ (bK L S).1.length ≤ 6 := by
 refine callsIn_of_wp_marks Tryz.func142 rfl trivial ?_ rfl
 simp only [Tryz.ntmps142, List.size_toArray, List.length_cons, List.length_nil, Nat.reduceAdd, Nat.reduceSub, Array.replicate_succ, Array.replicate_zero, List.push_toArray, List.append_toArray, List.nil_append, List.cons_append]
 gi_wp2
 have B0 := aH w (.cells #[.slice none 0 0] 81) (.cells #[.int .i64 0] 2)
 have hz0 : ((w.alloc (.cells #[.slice none 0 0] 81)).alloc (.cells #[.int .i64 0] 2)).heap.size = w.heap.size + 2 := by simp
 have hp0 : ((w.alloc (.cells #[.slice none 0 0] 81)).alloc (.cells #[.int .i64 0] 2)).heap[w.heap.size]? = some (.cells #[.slice none 0 0] 81 (0, 0)) := (Below.heap_alloc _ _ _ (by simp)).trans (World.alloc_heap_new w _)
 have hq0 : ((w.alloc (.cells #[.slice none 0 0] 81)).alloc (.cells #[.int .i64 0] 2)).heap[w.heap.size + 1]? = some (.cells #[.int .i64 0] 2 (0, 0)) := by
  have := World.alloc_heap_new (w.alloc (.cells #[.slice none 0 0] 81)) (.cells #[.int .i64 0] 2)
  rw [World.size_alloc] at this
  exact this
 generalize hW0 : (w.alloc (.cells #[.slice none 0 0] 81)).alloc (.cells #[.int .i64 0] 2) = W0 at *
 clear hW0
 refine pJ rfl (enters_of Tryz.func164 (by kernel_rfl) rfl) ?_
 intro rec hst hpe htm hpa has hbo
 have B1 : Below W0.heap.size W0 ((W0.alloc (.deferred (some []))).alloc (.loop rec)) := aH W0 _ _
 have hz1 : ((W0.alloc (.deferred (some []))).alloc (.loop rec)).heap.size = w.heap.size + 4 := by simp; omega
 have hl1 : ((W0.alloc (.deferred (some []))).alloc (.loop rec)).heap[W0.heap.size + 1]? = some (.loop rec) := by
  have := World.alloc_heap_new (W0.alloc (.deferred (some []))) (.loop rec)
  rw [World.size_alloc] at this
  exact this
 have hd1 : ((W0.alloc (.deferred (some []))).alloc (.loop rec)).heap[W0.heap.size]? = some (.deferred (some [])) := (Below.heap_alloc _ _ _ (by simp)).trans (World.alloc_heap_new W0 _)
 generalize hW1 : (W0.alloc (.deferred (some []))).alloc (.loop rec) = W1 at *
 clear hW1
 rw [hz0] at hl1 hd1 ⊢
 have Bw := ak B0 B1
 have Jst : GrJ w.heap.size (w.heap.size + 1) (w.heap.size + 2 + 1) (w.heap.size + 2) rec w [] W1 := ⟨⟨⟨_, by rw [B1.block _ (by omega)]; exact hp0, .inl ⟨rfl, rfl⟩⟩, by rw [B1.block _ (by omega), hq0]; exact congrArg (fun z => some (Obj.cells #[Value.int .i64 z] 2 (0, 0))) (show (0 : Int) = wrap64 0 from (ap (by omega) (by omega)).symm), by simp⟩, hl1, hd1, Bw⟩
 refine (uT L S ar br cr dr (w.heap.size + 2 + 1) w.heap.size (w.heap.size + 1) s1 s2 (n - 1) (GrJ w.heap.size (w.heap.size + 1) (w.heap.size + 2 + 1) (w.heap.size + 2) rec w) W1 hk hm (aU h1 Bw) (aU h2 Bw) (hS.kept Bw) (hD.kept Bw) (fun y e => by have := hA y e; omega) (fun y e => by have := hB y e; omega) (by omega) (by omega) (fun b hb => GrJ.abides (by omega)) GrJ.below ?round Jst).mono ?behind
 case round =>
  clear Jst B1 Bw hl1 hd1 hp0 hq0 B0
  intro m pre x W hJ hW0 hx hlen
  obtain ⟨xi, xg⟩ := x
  unfold vW at hx
  unfold vE
  dsimp only at hx hlen hW0 ⊢
  have hfar : w.heap.size ≤ xg := by
   obtain ⟨W0', hJ0, h0⟩ := hW0
   have := (Array.getElem?_eq_some_iff.1 hJ0.rc).1
   omega
  clear hW0
  refine ⟨rec.fn, _, rec.assign, rec.body, run_yield hJ.rc (by rw [hpa]; rfl), roundIn_of_wpIn trivial ?_⟩
  rw [has, hbo, htm, hpa]
  have hW2 := hJ.rc
  have hbeg := run_beginRound (P := Tryz.prog) hJ.rc hst
  have hG2 := grownBy_putObj' W (w.heap.size + 2 + 1) (.loop { rec with state := .busy })
  have hnc : ∀ k cs t f, W.heap[k]? = some (.cells cs t f) → some k ≠ some (w.heap.size + 2 + 1) := fun k cs t f hk e => by have := Option.some.inj e; rw [this, hJ.rc] at hk; cases hk
  have hBx := hJ.box.grown hG2 hnc
  have hX2 : bt (W.putObj (w.heap.size + 2 + 1) (.loop { rec with state := .busy })) 2 xg (xi.length * 1) (jX xi) := by obtain ⟨cur, hc, hr⟩ := hx; exact ⟨cur, bj hc hG2 (hnc _ _ _ _ hc), hr⟩
  have hl2 : (W.putObj (w.heap.size + 2 + 1) (.loop { rec with state := .busy })).heap[w.heap.size + 2 + 1]? = some (.loop { rec with state := .busy }) := World.putObj_heap_same (Array.getElem?_eq_some_iff.1 hJ.rc).1
  have HBx := yz hBx
  have HX := yz hX2
  have HL2 := yz hl2
  have HJ := yz hJ
  have HG2 := yz hG2
  have HRB : Hid (({ ({ rec with state := .busy } : Loop) with state := .ready, pending := none } : Loop) = rec) := yz (by cases rec; simp_all)
  clear hBx hX2 hl2 hJ hx hnc hG2 hW2 has hbo htm hpa hpe hst
  generalize hrb : ({ rec with state := .busy } : Loop) = rb at *
  clear hrb
  have cN := yz (fun (j : Nat) => CallsIn.inRound (w.heap.size + 2 + 1) ((callsIn_wide (n := j)).2 (de xi (some ⟨xg, 0, none⟩) xi.length _ (by omega) (iC (yy HX)))))
  gi_wp2
  refine ⟨trivial, fun h => (by cases h), ?_⟩
  refine (yy cN _).mono ?_
  rintro e V1 ⟨rfl, hV1⟩
  generalize hV : W.putObj (w.heap.size + 2 + 1) (.loop rb) = V at *
  subst hV1
  obtain ⟨G, hG⟩ : ∃ G, pre.foldl bO ([], 0) = G := ⟨_, rfl⟩
  rw [hG] at HBx
  have HG := yz hG
  clear hG hbeg cN
  obtain ⟨Gm, Ga⟩ := G
  obtain ⟨⟨vm, hvm, hmost⟩, halike, hlenG⟩ := yy HBx
  dsimp only at hmost halike hlenG
  have HD2 : Hid (V1.heap[w.heap.size + 2]? = some (.deferred (some []))) := yz (by rw [← hV]; exact bj (yy HJ).df (grownBy_putObj' W _ _) (fun e => by have := Option.some.inj e; omega))
  have hV1s : w.heap.size + 4 ≤ V1.heap.size := by have := (Array.getElem?_eq_some_iff.1 (yy HL2)).1; omega
  obtain ⟨am, cm, hvf, hnm⟩ : ∃ am cm, vm = .slice am Gm.length cm ∧ fR V1 am Gm Gm.length := by
   rcases hmost with ⟨e1, e2⟩ | ⟨g, e, _, _, _, hr⟩
   ·exact ⟨none, 0, by rw [e1, e2]; rfl, .inl (by rw [e1]; rfl)⟩
   ·exact ⟨_, _, e, iC hr⟩
  subst hvf
  have HM := yz hmost
  have HVM := yz hvm
  have HAL := yz halike
  obtain ⟨m0, m1⟩ := fF hvm
  obtain ⟨a0, a1⟩ := fF halike
  have cM := yz (fun (j : Nat) => CallsIn.inRound (w.heap.size + 2 + 1) ((callsIn_wide (n := j)).2 (de Gm am cm V1 (by omega) hnm)))
  have HSame : Hid (bO (Gm, Ga) xi = (Gm, Ga) → ∃ v w', (Instr.endRound (w.heap.size + 2 + 1) none).run Tryz.prog V1 = .ok v w' ∧ (Ending.returned v = .returned (.bool true) ∧ GrJ w.heap.size (w.heap.size + 1) (w.heap.size + 2 + 1) (w.heap.size + 2) rec w (pre ++ [xi]) w' ∧ KpX w.heap.size (w.heap.size + 1) W w')) := yz (fun e => iQ (yy HJ) hV (yy HRB) (by omega) (by omega) (by rw [yy HG, e]; exact yy HBx) (yy HL2) (yy HD2) (Below.refl _ _) ⟨Nat.le_refl _, rfl, rfl, rfl, fun _ _ h _ _ _ => h⟩)
  clear hmost hvm halike hnm
  by_cases c3 : aP xi < 3
  ·have c3' : (aP xi : Int) < 3 := by omega
   gi_wp2
   refine ⟨trivial, ?_⟩
   gi_wp2
   exact yy HSame (by unfold bO; rw [if_pos (.inl c3)])
  have c3' : ¬ (aP xi : Int) < 3 := by omega
  gi_wp2
  refine ⟨trivial, fun h => (by cases h), ?_⟩
  refine (yy cM _).mono ?_
  rintro e V2 ⟨rfl, hV2⟩
  rw [hV2]
  clear hV2 V2
  by_cases c4 : aP xi < aP Gm
  ·have c4' : (aP xi : Int) < (aP Gm : Int) := by omega
   gi_wp2
   exact yy HSame (by unfold bO; rw [if_pos (.inr c4)])
  have c4' : ¬ (aP xi : Int) < (aP Gm : Int) := by omega
  gi_wp2
  refine ⟨trivial, fun h => (by cases h), ?_⟩
  refine (yy cM _).mono ?_
  rintro e V2 ⟨rfl, hV2⟩
  rw [hV2]
  clear hV2 V2
  have hxl : 3 ≤ xi.length := by have := qg xi; omega
  have hxp : xg ≠ w.heap.size := fun e => by
   obtain ⟨cur, hc, _⟩ := yy HX
   have h5 := yy HVM
   rw [← e, hc] at h5
   simp at h5
  have hxq : xg ≠ w.heap.size + 1 := fun e => by
   obtain ⟨cur, hc, hr⟩ := yy HX
   have h5 := yy HAL
   rw [← e, hc] at h5
   simp at h5
   have h6 := hr 1 (by omega)
   rw [h5] at h6
   simp at h6
  by_cases c5 : aP Gm < aP xi
  ·have c5' : (aP Gm : Int) < (aP xi : Int) := by omega
   gi_wp2
   have hst : bO (Gm, Ga) xi = (xi, 1) := by unfold bO; dsimp only; rw [if_neg (by rintro (h | h) <;> omega), if_pos c5]
   refine iQ (yy HJ) hV (yy HRB) (by omega) (by omega) ?_ (dE (dE (yy HL2) (by omega) _) (by omega) _) (dE (dE (yy HD2) (by omega) _) (by omega) _) (((Below.refl w.heap.size V1).setCell (p := ⟨w.heap.size, 0, none⟩) (Nat.le_refl _) _).setCell (p := ⟨w.heap.size + 1, 0, none⟩) (by show w.heap.size ≤ w.heap.size + 1; omega) _) ((ml V1 _ (.inl rfl)).trans (ml _ _ (.inr rfl)))
   rw [yy HG, hst]
   refine ⟨⟨_, dE (mS (yy HVM) _) (by omega) _, .inr ⟨xg, rfl, hfar, hxp, hxq, mr (mr (yy HX) hxp _) hxq _⟩⟩, ?_, hlen⟩
   have h7 := mS (dE (x := w.heap.size) (yy HAL) (by omega) (Value.slice (some ⟨xg, 0, none⟩) xi.length xi.length)) (Value.int .i64 1)
   rw [show wrap64 (((xi, 1) : List Int × Nat).2 : Int) = 1 from ap (n := 1) (by omega) (by omega)]
   exact h7
  ·have c5' : ¬ (aP Gm : Int) < (aP xi : Int) := by omega
   gi_wp2
   have hst : bO (Gm, Ga) xi = (Gm, Ga + 1) := by unfold bO; dsimp only; rw [if_neg (by rintro (h | h) <;> omega), if_neg c5]
   refine iQ (yy HJ) hV (yy HRB) (by omega) (by omega) ?_ (dE (yy HL2) (by omega) _) (dE (yy HD2) (by omega) _) ((Below.refl w.heap.size V1).setCell (p := ⟨w.heap.size + 1, 0, none⟩) (by show w.heap.size ≤ w.heap.size + 1; omega) _) (ml V1 _ (.inr rfl))
   rw [yy HG, hst]
   refine ⟨⟨_, dE (yy HVM) (by omega) _, ?_⟩, ?_, hlenG⟩
   ·rcases yy HM with h | ⟨g, e, n0, n1, n2, hr⟩
    ·exact .inl h
    ·exact .inr ⟨g, e, n0, n1, n2, mr hr n2 _⟩
   ·have h7 := mS (yy HAL) (Value.int .i64 (wrap64 (wrap64 (Ga : Int) + 1)))
    rw [h7]
    have e8 : wrap64 (wrap64 (Ga : Int) + 1) = wrap64 (((Gm, Ga + 1) : List Int × Nat).2 : Int) := by
     show wrap64 (wrap64 (Ga : Int) + 1) = wrap64 ((Ga + 1 : Nat) : Int)
     exact qA Ga
    rw [e8]
 case behind =>
  rintro e W' ⟨⟨v, rfl⟩, hJ⟩
  refine ⟨⟨_, rfl⟩, hJ.rc, ?_⟩
  have hne : ∀ k cs t f, W'.heap[k]? = some (.cells cs t f) → some k ≠ some (w.heap.size + 2 + 1) := fun k cs t f hk e => by have := Option.some.inj e; rw [this, hJ.rc] at hk; cases hk
  have hBx := fun o => hJ.box.grown (grownBy_putObj' W' (w.heap.size + 2 + 1) o) hne
  have HBx := yz hBx
  have HDf := yz (fun o => bj hJ.df (grownBy_putObj' W' (w.heap.size + 2 + 1) o) (fun e => by have := Option.some.inj e; omega))
  have HBl := yz (fun o => hJ.bel.trans ((Below.refl w.heap.size W').grown (grownBy_putObj' W' (w.heap.size + 2 + 1) o) hJ.bel.size (fun k e => by cases e; omega)))
  obtain ⟨⟨vm, hvm, hmost⟩, halike, hlen6⟩ := hJ.box
  have m0 := fun o => (fF (bj hvm (grownBy_putObj' W' (w.heap.size + 2 + 1) o) (hne _ _ _ _ hvm))).1
  have a0 := fun o => (fF (bj halike (grownBy_putObj' W' (w.heap.size + 2 + 1) o) (hne _ _ _ _ halike))).1
  have HM := yz hmost
  have HNe := yz hne
  clear hBx hvm hmost halike hne hJ B1 Bw hl1 hd1 hp0 hq0 B0 Jst has hbo htm hpa hpe hst
  gi_wp2
  gi_region
  gi_wp2
  refine ⟨by simp, .inl ⟨w.heap.size + 2, _, rfl, run_takeDeferred (yy HDf _), ?_⟩⟩
  have HBy := yz (fun o => (yy HBl o).drew.trans ((Below.refl w.heap.size _).grown (grownBy_putObj' (W'.putObj (w.heap.size + 2 + 1) o).drew (w.heap.size + 2) (.deferred none)) (yy HBl o).size (fun k e => by cases e; omega)))
  refine ⟨_, by simp [results, go_sem]; rfl, ⟨vm, rfl, ?_⟩, yy HBy _, hlen6⟩
  rcases yy HM with h | ⟨g, e, n0, n1, n2, hr⟩
  ·exact .inl h
  ·refine .inr ⟨g, e, n0, ?_⟩
   obtain ⟨cur, hc, hr⟩ := hr
   have k1 := fun o => bj hc (grownBy_putObj' W' (w.heap.size + 2 + 1) o) (yy HNe _ _ _ _ hc)
   have hgd : g ≠ w.heap.size + 2 := fun e => by
    have h2 := yy HDf (.deferred none)
    have h3 := k1 (.deferred none)
    rw [e, h2] at h3
    cases h3
   have k2 : ∀ o, ((W'.putObj (w.heap.size + 2 + 1) o).drew.putObj (w.heap.size + 2) (.deferred none)).heap[g]? = some (.cells cur 2 (0, 0)) := fun o => (World.putObj_heap_other hgd).trans (k1 o)
   exact ⟨cur, k2 _, hr⟩
theorem nL (L : List St) (S : List D3) (ar br : Option Addr) (cr dr : Nat) (w : World) :
  Calls Tryz.prog 143 #[.slice ar L.length cr, .slice br S.length dr] w fun e w' => e = .returned (.func (.func 164) #[] #[.pointer (some ⟨w.heap.size, 0, none⟩), .pointer (some ⟨w.heap.size + 1, 0, none⟩)]) ∧ w'.cell? ⟨w.heap.size, 0, none⟩ = some (.slice ar L.length cr) ∧ w'.cell? ⟨w.heap.size + 1, 0, none⟩ = some (.slice br S.length dr) ∧ Below w.heap.size w w' := by
 go_enter Tryz.func143, Tryz.ntmps143
 go_wp2
 refine bodyPost_ret (v := .func (.func 164) #[] #[.pointer (some ⟨w.heap.size, 0, none⟩), .pointer (some ⟨w.heap.size + 1, 0, none⟩)]) (by simp [results, go_sem]) rfl ⟨rfl, ?_, ?_, aH w _ _⟩
 ·exact aU (by simp) (an _ _)
 ·have := World.alloc_heap_new (w.alloc (.cells #[.slice ar L.length cr] 41)) (.cells #[.slice br S.length dr] 78)
  rw [World.size_alloc] at this
  exact (fF this).1
def ux (w' : World) (B : Nat) (ids : List Int) (cnt code : Int) (e : Ending) : Prop := ∃ v, e = .returned (.agg #[v, .int .i64 cnt, .int .i64 code]) ∧ ((ids = [] ∧ v = .slice none 0 0) ∨ ∃ g, v = .slice (some ⟨g, 0, none⟩) ids.length ids.length ∧ B ≤ g ∧ bt w' 2 g (ids.length * 1) (jX ids))
theorem eZ (T : Array Value) (X : World) (b : Nat) (v : Value) (c k : Int) (hT : T.getD 4 undef = .pointer (some ⟨b, 0, none⟩)) (h : IdO X b v c k) : (results Tryz.f116 T).run Tryz.prog X = .ok (.agg #[v, .int .i64 c, .int .i64 k]) X := by
 obtain ⟨h0, h1, h2⟩ := h
 simp only [Array.getD_eq_getD_getElem?] at hT
 simp [results, Tryz.results116, go_sem, hT, h0, h1, h2]
theorem kj {W : World} {x g m : Nat} {t : TypeId} {f : Nat → Value} (h : bt W t g m f) (hne : g ≠ x) (o : Nat) (v : Value) : bt (W.setCell ⟨x, o, none⟩ v) t g m f := by
 obtain ⟨cur, hc, hr⟩ := h
 exact ⟨cur, by rw [Below.heap_setCell W ⟨x, o, none⟩ v g hne]; exact hc, hr⟩
theorem nN : ∀ (X : List (List Int)) (g : List Int × Nat), (X.foldl bO g).2 ≤ g.2 + X.length
 | [], g => by simp
 | x :: X, g => by
  have h1 := nN X (bO g x)
  have h2 : (bO g x).2 ≤ g.2 + 1 := by
   unfold bO
   split
   ·exact Nat.le_succ _
   ·split
    ·show 1 ≤ g.2 + 1; omega
    ·exact Nat.le_refl _
  rw [List.foldl_cons, List.length_cons]
  omega
theorem rE (L : List St) (S : List D3) (hk : be L = true) (hm : S.length ≤ 6) : (bK L S).2 ≤ 4826809 := by
 have h1 := nN (cH (eM L S) (L.map (·.1)) S.length []) ([], 0)
 have h2 := kR (eM L S) (L.map (·.1)) (by rw [List.length_map]; exact (dg hk).1) S.length []
 have h3 : 13 ^ S.length ≤ 13 ^ 6 := Nat.pow_le_pow_right (by omega) hm
 have h4 : (13 : Nat) ^ 6 = 4826809 := by decide
 unfold bK
 rw [h4] at h3
 exact Nat.le_trans h1 (by show 0 + _ ≤ _; omega)
theorem eb {w' : World} {B : Nat} {L : List St} {S : List D3} {k : Int} (h : aV L S = [] ∧ dl L S = 0 ∧ bg L S = k) : ux w' B (aV L S) (dl L S) (bg L S) (.returned (.agg #[.slice none 0 0, .int .i64 0, .int .i64 k])) := by
 rw [h.1, h.2.1, h.2.2]
 exact ⟨_, rfl, .inl ⟨rfl, rfl⟩⟩
theorem gZ (L : List St) (S : List D3) (ar br : Option Addr) (cr dr : Nat) (p : Addr) (w : World) (hn : L.length ≤ 1048576) (hm : S.length ≤ 1048576) (hcr : L.length ≤ cr) (hc9 : cr ≤ 9223372036854775807) (hdr : S.length ≤ dr) (hd9 : dr ≤ 9223372036854775807) (hS : aL w ar L L.length) (hD : bG w br S S.length) (hA : ∀ y, ar = some y → y.block < w.heap.size) (hB : ∀ y, br = some y → y.block < w.heap.size) (hE : aW p w) :
  Calls Tryz.prog 116 #[.slice ar L.length cr, .slice br S.length dr] w fun e w' => ux w' w.heap.size (aV L S) (dl L S) (bg L S) e ∧ Below w.heap.size w w' := by
 have B0 := an w (.cells #[.slice none 0 0, .int .i64 0, .int .i64 0] 83)
 by_cases hbig : 400 < L.length ∨ 400 < S.length
 ·have HO := yz (lz hbig)
  by_cases h4 : 400 < L.length
  ·have h4' : (400 : Int) < (L.length : Int) := by omega
   go_enter Tryz.func116, Tryz.ntmps116
   go_wp2
   exact bodyPost_ret (v := .agg #[.slice none 0 0, .int .i64 0, .int .i64 2]) (by simp [results, Tryz.results116, go_sem]) rfl ⟨eb (yy HO), an _ _⟩
  ·have h4' : ¬ (400 : Int) < (L.length : Int) := by omega
   have h5' : (400 : Int) < (S.length : Int) := by omega
   go_enter Tryz.func116, Tryz.ntmps116
   go_wp2
   exact bodyPost_ret (v := .agg #[.slice none 0 0, .int .i64 0, .int .i64 2]) (by simp [results, Tryz.results116, go_sem]) rfl ⟨eb (yy HO), an _ _⟩
 have h4' : ¬ (400 : Int) < (L.length : Int) := by omega
 have h5' : ¬ (400 : Int) < (S.length : Int) := by omega
 have R0 : IdO (w.alloc (.cells #[.slice none 0 0, .int .i64 0, .int .i64 0] 83)) w.heap.size (.slice none 0 0) 0 0 := by refine ⟨?_, ?_, ?_⟩ <;> simp
 have F0 : fQ (w.alloc (.cells #[.slice none 0 0, .int .i64 0, .int .i64 0] 83)) w.heap.size := fun i => by simp
 have hsz : w.heap.size + 1 ≤ (w.alloc (.cells #[.slice none 0 0, .int .i64 0, .int .i64 0] 83)).heap.size := by simp
 have cS := yz (fun (W : World) h h2 => bY L ar cr p W hn hcr hc9 h h2)
 have HE := yz (hE.kept B0)
 have cD := yz (fun (W : World) h => di S br dr W hm hdr hd9 h)
 have HB := yz B0
 have HR := yz R0
 have HF := yz F0
 have HS := yz (hS.kept B0)
 have HD := yz (hD.kept B0)
 clear B0 R0 F0 hS hD hE
 go_enter Tryz.func116, Tryz.ntmps116
 go_wp2_with fail
 generalize hW : w.alloc (.cells #[.slice none 0 0, .int .i64 0, .int .i64 0] 83) = W at *
 clear hW
 refine (yy cS _ (yy HS) (yy HE)).mono ?_
 rintro e w1 ⟨rfl, hx⟩
 have B1 := yz (ak (yy HB) hx)
 have R1 := yz ((yy HR).kept hx)
 have F1 := yz ((yy HF).kept (by omega) hx)
 have S1 := yz ((yy HS).kept hx)
 have D1 := yz ((yy HD).kept hx)
 have hsz1 : w.heap.size + 1 ≤ w1.heap.size := Nat.le_trans hsz hx.size
 clear hx HB HR HF HS HD hsz cS
 cases hk : be L
 ·have HO := yz (le hbig (by unfold kN; rw [hk]; rfl))
  obtain ⟨r0, r1, r2⟩ := yy R1
  have f0 := yy F1 0
  have f1 := yy F1 1
  have f2 := yy F1 2
  go_wp2_with fail
  clear r0 r1 r2 f0 f1 f2
  exact bodyPost_ret (v := .agg #[.slice none 0 0, .int .i64 0, .int .i64 1]) (eZ _ _ w.heap.size _ 0 1 rfl (hZ (yy R1) _ _ _)) rfl ⟨eb (yy HO), ((((yy B1).setCell (Nat.le_refl _) _).setCell (Nat.le_refl _) _).setCell (Nat.le_refl _) _)⟩
 go_wp2_with fail
 refine (yy cD _ (yy D1)).mono ?_
 rintro e w2 ⟨rfl, hx⟩
 have B2 := yz (ak (yy B1) hx)
 have R2 := yz ((yy R1).kept hx)
 have F2 := yz ((yy F1).kept (by omega) hx)
 have S2 := yz ((yy S1).kept hx)
 have D2 := yz ((yy D1).kept hx)
 have hsz2 : w.heap.size + 1 ≤ w2.heap.size := Nat.le_trans hsz1 hx.size
 clear hx B1 R1 F1 S1 D1 hsz1 cD
 cases hp : aQ S
 ·have HO := yz (le hbig (by unfold kN; rw [hp, Bool.and_false]))
  obtain ⟨r0, r1, r2⟩ := yy R2
  have f0 := yy F2 0
  have f1 := yy F2 1
  have f2 := yy F2 2
  go_wp2_with fail
  clear r0 r1 r2 f0 f1 f2
  exact bodyPost_ret (v := .agg #[.slice none 0 0, .int .i64 0, .int .i64 1]) (eZ _ _ w.heap.size _ 0 1 rfl (hZ (yy R2) _ _ _)) rfl ⟨eb (yy HO), ((((yy B2).setCell (Nat.le_refl _) _).setCell (Nat.le_refl _) _).setCell (Nat.le_refl _) _)⟩
 have HO := yz (lW hbig (by unfold kN; rw [hk, hp]; rfl))
 have hs6 : S.length ≤ 6 := (em hp).1
 have hgb := rE L S hk hs6
 clear hp
 go_wp2_with fail
 refine (nL L S ar br cr dr w2).mono ?_
 rintro e w3 ⟨rfl, p1, p2, hx⟩
 have B3 := yz (ak (yy B2) hx)
 have R3 := yz ((yy R2).kept hx)
 have F3 := yz ((yy F2).kept (by omega) hx)
 have S3 := yz ((yy S2).kept hx)
 have D3' := yz ((yy D2).kept hx)
 have hsz3 : w.heap.size + 1 ≤ w3.heap.size := Nat.le_trans hsz2 hx.size
 have cG := yz ((callsIn_wide (n := 0)).1 (ng L S ar br cr dr w2.heap.size (w2.heap.size + 1) w3 hk hs6 p1 p2 (yy S3) (yy D3') (fun y e => by have := hA y e; omega) (fun y e => by have := hB y e; omega) 0))
 clear p1 p2 hx B2 R2 F2 S2 D2 hk
 go_wp2_with fail
 refine (yy cG).mono ?_
 rintro e w4 ⟨⟨v, rfl, hv⟩, hx, hl6⟩
 have B4 := yz (ak (yy B3) hx)
 have R4 := yz ((yy R3).kept hx)
 have F4 := yz ((yy F3).kept (by omega) hx)
 have hsz4 : w.heap.size + 1 ≤ w4.heap.size := Nat.le_trans hsz3 hx.size
 have HV := yz hv
 clear hx hv B3 R3 F3 S3 D3' cG
 rw [ap (n := ((bK L S).2 : Int)) (by omega) (by omega)]
 have HG := yz (kY L S)
 obtain ⟨Gi, hGi⟩ : ∃ G, (bK L S) = G := ⟨_, rfl⟩
 rw [hGi] at HV HG hgb hl6 ⊢
 clear hGi
 obtain ⟨gi, ga⟩ := Gi
 dsimp only at HV HG hgb hl6 ⊢
 obtain ⟨r0, r1, r2⟩ := yy R4
 have f0 := yy F4 0
 have f1 := yy F4 1
 have f2 := yy F4 2
 by_cases c0 : ga = 0
 ·have c0' : (ga : Int) = 0 := by omega
  go_wp2_with fail
  clear r0 r1 r2 f0 f1 f2
  have h8 : aV L S = [] ∧ dl L S = 0 ∧ bg L S = 6 := ⟨by rw [(yy HO).1, (yy HG).1, if_neg (by omega)], by rw [(yy HO).2.1, (yy HG).2.1, if_neg (by omega)], by rw [(yy HO).2.2, (yy HG).2.2, if_pos c0]⟩
  exact bodyPost_ret (v := .agg #[.slice none 0 0, .int .i64 0, .int .i64 6]) (eZ _ _ w.heap.size _ 0 6 rfl (hZ (yy R4) _ _ _)) rfl ⟨eb h8, ((((yy B4).setCell (Nat.le_refl _) _).setCell (Nat.le_refl _) _).setCell (Nat.le_refl _) _)⟩
 have c0' : ¬ (ga : Int) = 0 := by omega
 by_cases c1 : 1 < ga
 ·have c1' : (1 : Int) < (ga : Int) := by omega
  go_wp2_with fail
  clear r0 r1 r2 f0 f1 f2
  have h8 : aV L S = [] ∧ dl L S = 0 ∧ bg L S = 11 := ⟨by rw [(yy HO).1, (yy HG).1, if_neg (by omega)], by rw [(yy HO).2.1, (yy HG).2.1, if_neg (by omega)], by rw [(yy HO).2.2, (yy HG).2.2, if_neg c0, if_pos c1]⟩
  exact bodyPost_ret (v := .agg #[.slice none 0 0, .int .i64 0, .int .i64 11]) (eZ _ _ w.heap.size _ 0 11 rfl (hZ (yy R4) _ _ _)) rfl ⟨eb h8, ((((yy B4).setCell (Nat.le_refl _) _).setCell (Nat.le_refl _) _).setCell (Nat.le_refl _) _)⟩
 have c1' : ¬ (1 : Int) < (ga : Int) := by omega
 have hga : ga = 1 := by omega
 have h8 : aV L S = gi ∧ dl L S = (aP gi : Int) ∧ bg L S = 0 := ⟨by rw [(yy HO).1, (yy HG).1, if_pos hga], by rw [(yy HO).2.1, (yy HG).2.1, if_pos hga], by rw [(yy HO).2.2, (yy HG).2.2, if_neg c0, if_neg c1]⟩
 obtain ⟨va, vc, rfl, hnm⟩ : ∃ a c, v = .slice a gi.length c ∧ fR w4 a gi gi.length := by
  rcases yy HV with ⟨e1, e2⟩ | ⟨g, e, _, hr⟩
  ·exact ⟨none, 0, by rw [e1, e2]; rfl, .inl (by rw [e1]; rfl)⟩
  ·exact ⟨_, _, e, iC hr⟩
 have cN := yz (de gi va vc w4 (by omega) hnm)
 clear hnm
 go_wp2_with fail
 refine (yy cN).mono ?_
 rintro e w5 ⟨rfl, hw5⟩
 subst hw5
 go_wp2_with fail
 clear r0 r1 r2 f0 f1 f2
 rw [h8.1, h8.2.1, h8.2.2]
 refine bodyPost_ret (v := .agg #[.slice va gi.length vc, .int .i64 (aP gi : Int), .int .i64 0]) (eZ _ _ w.heap.size _ (aP gi : Int) 0 rfl (hZ (yy R4) _ _ _)) rfl ⟨⟨_, rfl, ?_⟩, ((((yy B4).setCell (Nat.le_refl _) _).setCell (Nat.le_refl _) _).setCell (Nat.le_refl _) _)⟩
 rcases yy HV with h | ⟨g, e, hg, hr⟩
 ·exact .inl h
 ·have hne : g ≠ w.heap.size := by omega
  exact .inr ⟨g, e, by omega, kj (kj (kj hr hne 0 _) hne 1 _) hne 2 _⟩
end
section
open Go.RowKit Go.Sort
theorem iR (F : List Int → Int → Bool) (A : List Int) : ∀ (r : Nat) (ids l : List Int), l ∈ cH F A r ids → l.length = ids.length + r
 | 0, ids, l, h => by
  simp only [cH, List.mem_singleton] at h
  subst h
  omega
 | r + 1, ids, l, h => by
  simp only [cH, List.mem_append, List.mem_flatMap] at h
  rcases h with ⟨a, _, h⟩ | h
  ·have := iR F A r _ l h
   rw [List.length_append] at this
   simp at this
   omega
  ·have := iR F A r _ l h
   rw [List.length_append] at this
   simp at this
   omega
theorem ky (m : Nat) : ∀ (X : List (List Int)) (g : List Int × Nat), (∀ l ∈ X, l.length ≤ m) → g.1.length ≤ m → (X.foldl bO g).1.length ≤ m
 | [], g, _, h => h
 | x :: X, g, hX, h => by
  rw [List.foldl_cons]
  refine ky m X _ (fun l hl => hX l (List.mem_cons_of_mem _ hl)) ?_
  unfold bO
  split
  ·exact h
  ·split
   ·exact hX x (List.mem_cons_self ..)
   ·exact h
theorem oY (L : List St) (S : List D3) : (aV L S).length ≤ 6 := by
 by_cases hb : 400 < L.length ∨ 400 < S.length
 ·rw [(lz hb).1]; simp
 ·cases ho : kN L S
  ·rw [(le hb ho).1]; simp
  ·rw [(lW hb ho).1, (kY L S).1]
   have hp : aQ S = true := by unfold kN at ho; simp at ho; exact ho.2
   have h6 := (em hp).1
   split
   ·refine Nat.le_trans (ky S.length _ _ (fun l hl => ?_) (by simp)) h6
    have := iR _ _ _ _ _ hl
    simp at this
    omega
   ·simp
theorem lq (L : List St) (lim mode A B C D coast fr : Int) (ad : Option Addr) (c : Nat) (p : Addr) (w : World) (hn : L.length ≤ 1048576) (hcap : L.length ≤ c) (hc9 : c ≤ 9223372036854775807) (hE : aW p w) (hS : aL w ad L L.length) :
  Calls Tryz.prog 121 #[.agg #[.slice ad L.length c, .int .i64 lim, .int .i64 mode, .int .i64 A, .int .i64 B, .int .i64 C, .int .i64 D, .int .i64 coast, .int .i64 fr]] w fun e w' => qP w' w.heap.size (eR ⟨L, lim, mode, A, B, C, D, coast, fr⟩) (gD ⟨L, lim, mode, A, B, C, D, coast, fr⟩) e ∧ Below w.heap.size w w' := by
 have B0 := aH w (.cells #[.slice ad L.length c, .int .i64 lim, .int .i64 mode, .int .i64 A, .int .i64 B, .int .i64 C, .int .i64 D, .int .i64 coast, .int .i64 fr] 45) (.cells #[.slice none 0 0, .int .i64 0, .int .i64 0, .int .i64 0, .int .i64 0, .int .i64 0, .int .i64 0, .int .i64 0, .int .i64 0, .int .i64 0] 47)
 have T0 := (dJ w (.slice ad L.length c) lim mode A B C D coast fr 45).kept (an _ (.cells #[.slice none 0 0, .int .i64 0, .int .i64 0, .int .i64 0, .int .i64 0, .int .i64 0, .int .i64 0, .int .i64 0, .int .i64 0, .int .i64 0] 47))
 have R0 := (by simpa using mv (w.alloc (.cells #[.slice ad L.length c, .int .i64 lim, .int .i64 mode, .int .i64 A, .int .i64 B, .int .i64 C, .int .i64 D, .int .i64 coast, .int .i64 fr] 45)) (.slice none 0 0) 0 0 0 0 0 0 0 0 0 47 : TkO ((w.alloc (.cells #[.slice ad L.length c, .int .i64 lim, .int .i64 mode, .int .i64 A, .int .i64 B, .int .i64 C, .int .i64 D, .int .i64 coast, .int .i64 fr] 45)).alloc (.cells #[.slice none 0 0, .int .i64 0, .int .i64 0, .int .i64 0, .int .i64 0, .int .i64 0, .int .i64 0, .int .i64 0, .int .i64 0, .int .i64 0] 47)) (w.heap.size + 1) (.slice none 0 0) 0 0 0 0 0 0 0 0 0)
 have G0 := (by simpa using ea (w.alloc (.cells #[.slice ad L.length c, .int .i64 lim, .int .i64 mode, .int .i64 A, .int .i64 B, .int .i64 C, .int .i64 D, .int .i64 coast, .int .i64 fr] 45)) #[.slice none 0 0, .int .i64 0, .int .i64 0, .int .i64 0, .int .i64 0, .int .i64 0, .int .i64 0, .int .i64 0, .int .i64 0, .int .i64 0] 47 : dU ((w.alloc (.cells #[.slice ad L.length c, .int .i64 lim, .int .i64 mode, .int .i64 A, .int .i64 B, .int .i64 C, .int .i64 D, .int .i64 coast, .int .i64 fr] 45)).alloc (.cells #[.slice none 0 0, .int .i64 0, .int .i64 0, .int .i64 0, .int .i64 0, .int .i64 0, .int .i64 0, .int .i64 0, .int .i64 0, .int .i64 0] 47)) (w.heap.size + 1))
 have hsz : w.heap.size + 2 ≤ ((w.alloc (.cells #[.slice ad L.length c, .int .i64 lim, .int .i64 mode, .int .i64 A, .int .i64 B, .int .i64 C, .int .i64 D, .int .i64 coast, .int .i64 fr] 45)).alloc (.cells #[.slice none 0 0, .int .i64 0, .int .i64 0, .int .i64 0, .int .i64 0, .int .i64 0, .int .i64 0, .int .i64 0, .int .i64 0, .int .i64 0] 47)).heap.size := by simp
 have S0 := hS.kept B0
 have cR := yz (dC L lim mode A B C D coast fr ad c p _ hn hcap hc9 S0 (hE.kept B0))
 have cC := yz (fun W h => fo L lim mode A B C D coast fr ad c W hn h)
 have HB := yz B0
 have HT := yz T0
 have HR := yz R0
 have HG := yz G0
 have HS := yz S0
 clear B0 T0 R0 G0 S0 hS
 go_enter Tryz.func121, Tryz.ntmps121
 go_wp2_with fail
 generalize (w.alloc (.cells #[.slice ad L.length c, .int .i64 lim, .int .i64 mode, .int .i64 A, .int .i64 B, .int .i64 C, .int .i64 D, .int .i64 coast, .int .i64 fr] 45)).alloc (.cells #[.slice none 0 0, .int .i64 0, .int .i64 0, .int .i64 0, .int .i64 0, .int .i64 0, .int .i64 0, .int .i64 0, .int .i64 0, .int .i64 0] 47) = W at *
 refine (yy cR).mono ?_
 rintro e w1 ⟨rfl, hx⟩
 have B1 := yz (ak (yy HB) hx)
 have T1 := yz ((yy HT).kept hx)
 have R1 := yz ((yy HR).kept hx)
 have G1 := yz ((yy HG).kept (yy HR).lt hx)
 have S1 := yz ((yy HS).kept hx)
 have hsz1 : w.heap.size + 2 ≤ w1.heap.size := Nat.le_trans hsz hx.size
 clear hx HB HT HR HG HS hsz cR
 cases hk : ax ⟨L, lim, mode, A, B, C, D, coast, fr⟩
 ·have HO1 : Hid (eR ⟨L, lim, mode, A, B, C, D, coast, fr⟩ = dT) := yz (by unfold eR; rw [hk]; rfl)
  have HO2 : Hid (gD ⟨L, lim, mode, A, B, C, D, coast, fr⟩ = 1) := yz (by unfold gD; rw [hk]; rfl)
  have B2 := B1
  have R2 := R1
  have G2 := G1
  clear B1 R1 G1
  obtain ⟨⟨r0, r1, r2, r3, r4, r5, r6, r7, r8⟩, r9⟩ := yy R2
  have g0 := yy G2 0
  have g1 := yy G2 1
  have g2 := yy G2 2
  have g3 := yy G2 3
  have g4 := yy G2 4
  have g5 := yy G2 5
  have g6 := yy G2 6
  have g7 := yy G2 7
  have g8 := yy G2 8
  have g9 := yy G2 9
  go_wp2_with fail
  clear r0 r1 r2 r3 r4 r5 r6 r7 r8 r9 g0 g1 g2 g3 g4 g5 g6 g7 g8 g9
  refine bodyPost_ret (v := .agg #[.slice none 0 0, .int .i64 0, .int .i64 0, .int .i64 0, .int .i64 0, .int .i64 0, .int .i64 0, .int .i64 0, .int .i64 0, .int .i64 1]) ?_ rfl ⟨?_, ?_⟩
  ·refine kq _ _ (w.heap.size + 1) _ 0 0 0 0 0 0 0 0 1 rfl ?_
   exact dy (yy R2) _ _ _ _ _ _ _ _ _ _
  ·rw [yy HO1, yy HO2]
   exact dh _ _ _
  ·iterate 10 (refine aO ?_ (show w.heap.size ≤ w.heap.size + 1 by omega) _ _)
   exact yy B2
 ·have HO1 : Hid (eR ⟨L, lim, mode, A, B, C, D, coast, fr⟩ = ⟨L, lim, 0, 0, 0, 0, 0, 0, fr⟩) := yz (by unfold eR; rw [hk]; rfl)
  have HO2 : Hid (gD ⟨L, lim, mode, A, B, C, D, coast, fr⟩ = 0) := yz (by unfold gD; rw [hk]; rfl)
  clear hk
  obtain ⟨s0, s1, s2, s3, s4, s5, s6, s7, s8⟩ := yy T1
  go_wp2_with fail
  clear s0 s1 s2 s3 s4 s5 s6 s7 s8
  refine (yy cC _ (yy S1)).mono ?_
  rintro e w2 ⟨a, cap, rfl, hC, hx⟩
  have B2 := yz (ak (yy B1) hx)
  have R2 := yz ((yy R1).kept hx)
  have G2 := yz ((yy G1).kept (yy R1).lt hx)
  have C2 := yz (hC.low (B' := w.heap.size + 2) (by omega))
  clear hx hC B1 R1 G1 T1 S1 cC
  go_wp2_with fail
  refine (gd lim mode A B C D coast fr a L.length cap _).mono ?_
  rintro e w2b ⟨rfl, hx⟩
  have B2b := yz (ak (yy B2) hx)
  have R2b := yz ((yy R2).kept hx)
  have G2b := yz ((yy G2).kept (yy R2).lt hx)
  have C2b := yz ((yy C2).kept hx)
  clear hx B2 R2 G2 C2
  go_wp2_with fail
  refine (hF lim 0 0 0 0 0 0 fr a L.length cap _).mono ?_
  rintro e w3 ⟨rfl, hx⟩
  have B3 := yz (ak (yy B2b) hx)
  have R3 := yz ((yy R2b).kept hx)
  have G3 := yz ((yy G2b).kept (yy R2b).lt hx)
  have C3 := yz ((yy C2b).kept hx)
  clear hx B2b R2b G2b C2b
  obtain ⟨⟨r0, r1, r2, r3, r4, r5, r6, r7, r8⟩, r9⟩ := yy R3
  have g0 := yy G3 0
  have g1 := yy G3 1
  have g2 := yy G3 2
  have g3 := yy G3 3
  have g4 := yy G3 4
  have g5 := yy G3 5
  have g6 := yy G3 6
  have g7 := yy G3 7
  have g8 := yy G3 8
  have g9 := yy G3 9
  go_wp2_with fail
  clear r0 r1 r2 r3 r4 r5 r6 r7 r8 r9 g0 g1 g2 g3 g4 g5 g6 g7 g8 g9
  refine bodyPost_ret (v := .agg #[.slice a L.length cap, .int .i64 lim, .int .i64 0, .int .i64 0, .int .i64 0, .int .i64 0, .int .i64 0, .int .i64 0, .int .i64 fr, .int .i64 0]) ?_ rfl ⟨?_, ?_⟩
  ·refine kq _ _ (w.heap.size + 1) _ lim 0 0 0 0 0 0 fr 0 rfl ?_
   exact dy (yy R3) _ _ _ _ _ _ _ _ _ _
  ·rw [yy HO1, yy HO2]
   refine ⟨a, cap, rfl, ?_⟩
   refine ay.low (B := w.heap.size + 2) ?_ (by omega)
   iterate 10 (refine ay.far ?_ (show w.heap.size + 1 < w.heap.size + 2 by omega) _ _)
   exact yy C3
  ·iterate 10 (refine aO ?_ (show w.heap.size ≤ w.heap.size + 1 by omega) _ _)
   exact yy B3
end
end Go.Proofs.YtdchjcadhlkpfaaGreatDoor
