/- Several texts in one: IeR, IeS, IeT, IeU, IeV, TsD, TfM. -/
import Derived.Test.YteoonaanoenjiaaGreatDoorQObeyOwn14
import Derived.Test.YteoonaanoenjiaaGreatDoorQObeyOwn11
import Derived.Test.YteoonaanoenjiaaGreatDoorQObeyOwn1
import Derived.Test.YteoonaanoenjiaaGreatDoorQObeyOwn12
import Derived.Test.YteoonaanoenjiaaGreatDoorQObeyOwn9
namespace Go.Proofs.YteoonaanoenjiaaGreatDoor
open Go.RowKit Go.Sort Go.Shelf
set_option linter.unusedVariables false
attribute [local go_sem] Oper.semAt_some
structure BoxAt (W : World) (p q : Nat) (G : List Int × Nat) : Prop where
  most : ∃ v, W.heap[p]? = some (.cells #[v] 188 (0, 0)) ∧ ((G.1 = [] ∧ v = .slice none 0 0) ∨ ∃ g, v = .slice (some ⟨g, 0, none⟩) G.1.length G.1.length ∧ p ≤ g ∧ g ≠ p ∧ g ≠ q ∧ RowV W 2 g (G.1.length * 1) (numV G.1))
  alike : W.heap[q]? = some (.cells #[.int .i64 (wrap64 (G.2 : Int))] 2 (0, 0))
  len : G.1.length ≤ 6
structure GrJ (p q l d : Nat) (rec : Loop) (w0 : World) (pre : List (List Int)) (W : World) : Prop where
  box : BoxAt W p q (pre.foldl stepG ([], 0))
  rc : W.heap[l]? = some (.loop rec)
  df : W.heap[d]? = some (.deferred (some []))
  bel : Below w0.heap.size w0 W
theorem heap_kept {W W' : World} {k : Nat} {o : Obj} {row : Option Nat} (h : W.heap[k]? = some o) (hg : W.grownBy W' row) (hne : some k ≠ row) : W'.heap[k]? = some o := (hg.block k (Array.getElem?_eq_some_iff.1 h).1 hne).trans h
theorem BoxAt.grown {W W' : World} {p q : Nat} {G : List Int × Nat} {row : Option Nat} (h : BoxAt W p q G) (hg : W.grownBy W' row) (hne : ∀ k cs t f, W.heap[k]? = some (.cells cs t f) → some k ≠ row) : BoxAt W' p q G := by
  obtain ⟨⟨v, h1, h2⟩, h3, h4⟩ := h
  refine ⟨⟨v, heap_kept h1 hg (hne _ _ _ _ h1), ?_⟩, heap_kept h3 hg (hne _ _ _ _ h3), h4⟩
  rcases h2 with h2 | ⟨g, e, n0, n1, n2, cur, hc, hr⟩
  · exact .inl h2
  · exact .inr ⟨g, e, n0, n1, n2, cur, heap_kept hc hg (hne _ _ _ _ hc), hr⟩
theorem GrJ.abides {p q l d : Nat} {rec : Loop} {w0 : World} {b : Nat} (hb : w0.heap.size ≤ b) : JAb b (GrJ p q l d rec w0) := fun pre W W' h ⟨es, c, hm⟩ hg =>
  ⟨h.box.grown hg (fun k cs t f hk e => by have := Option.some.inj e; subst this; rw [hm] at hk; cases hk), heap_kept h.rc hg (fun e => by have e2 := Option.some.inj e; have h2 := h.rc; rw [e2, hm] at h2; cases h2), heap_kept h.df hg (fun e => by have e2 := Option.some.inj e; have h2 := h.df; rw [e2, hm] at h2; cases h2), h.bel.trans ⟨hg.os, hg.tape, hg.output, hg.size, fun k hk => hg.block k (Nat.lt_of_lt_of_le hk h.bel.size) (fun e => by have := Option.some.inj e; omega)⟩⟩
theorem GrJ.below {p q l d : Nat} {rec : Loop} {w0 : World} (pre : List (List Int)) (W W' : World) (h : GrJ p q l d rec w0 pre W) (hB : Below W.heap.size W W') : GrJ p q l d rec w0 pre W' := by
  have hg : W.grownBy W' none := ⟨hB.os, hB.tape, hB.output, hB.size, fun k hk _ => hB.block k hk⟩
  exact ⟨h.box.grown hg (fun k cs t f hk e => by cases e), heap_kept h.rc hg (by simp), heap_kept h.df hg (by simp), below_call h.bel hB⟩
theorem rangeWhole {P : Program} {n : Nat} {g : Operand} {ps : Array Tmp} {assign body : Code} {Q : Exit → Act → World → Prop} {a : Act} {w : World} {gf : Nat} {lb : Array Value} (hg : a.eval g = .func (.func gf) #[] lb) (eg : ∀ args w, (callFunc gf args).run P w = .ok (.enter gf args) w)
    (hc : ∀ (rec : Loop), rec.state = .ready → rec.pending = none → rec.tmps = a.tmps → rec.params = ps → rec.assign = assign → rec.body = body → CallsIn Fence.wide (n - 1) P gf (#[.func (.yield (w.heap.size + 1)) #[] #[]] ++ lb) ((w.alloc (.deferred (some []))).alloc (.loop rec)) fun e W' => (∃ v, e = .returned v) ∧ W'.heap[w.heap.size + 1]? = some (.loop rec) ∧ Q .normal { a with defers := { target := .collected w.heap.size, args := #[] } :: a.defers } (W'.putObj (w.heap.size + 1) (.loop { rec with state := .exhausted }))) :
    (Code.rangeFunc g ps assign body).wpIn Fence.wide n P Q a w := by
  refine wpIn_rangeFunc fun fn _ => ?_
  refine ⟨w.heap.size + 1, _, _, { target := .fn (.func gf) lb, args := #[.func (.yield (w.heap.size + 1)) #[] #[]] }, ?wa, gf, #[.func (.yield (w.heap.size + 1)) #[] #[]] ++ lb, ?wb, run_enterLoop_outer _ _ _ _ _, ?res, fun _ _ => trivial, ?inv, fun h => (by cases h), ?call⟩
  case res =>
    simp only [resolve, hg]
    simp [go_sem]
    rfl
  case inv =>
    simp [invoke, go_sem, eg]
    rfl
  case call =>
    refine (hc _ rfl rfl rfl rfl rfl rfl).mono ?_
    rintro e W' ⟨⟨v, rfl⟩, hl, hq⟩
    exact ⟨none, _, run_endLoop hl (by simp), hq⟩
attribute [local go_sem] Oper.semAt_some
theorem wrap_one (a : Int) : wrap64 (wrap64 a + 1) = wrap64 (a + 1) := by unfold wrap64; omega
theorem wrap_step (a : Nat) : wrap64 (wrap64 (a : Int) + 1) = wrap64 ((a + 1 : Nat) : Int) := by rw [wrap_one]; rfl
theorem box_cell {W : World} {p : Nat} {v : Value} {t : TypeId} (h : W.heap[p]? = some (.cells #[v] t (0, 0))) : W.cell? ⟨p, 0, none⟩ = some v ∧ W.frozen? ⟨p, 0, none⟩ = false := by
  constructor <;> simp [World.cell?, World.frozen?, h]
theorem kpx_put {p q l : Nat} {W : World} {o o' : Obj} (h : W.heap[l]? = some o) (h1 : o.isCells = false) (h2 : o.isWalk = false) : KpX p q W (W.putObj l o') :=
  ⟨by simp, rfl, rfl, rfl, fun k ob hk ho _ _ => by
    have hne : k ≠ l := fun e => by subst e; rw [h] at hk; cases hk; rcases ho with ho | ho <;> simp_all
    exact (World.putObj_heap_other hne).trans hk⟩
theorem kpx_set {p q x : Nat} (W : World) (v : Value) (hx : x = p ∨ x = q) : KpX p q W (W.setCell ⟨x, 0, none⟩ v) :=
  ⟨by simp, rfl, rfl, rfl, fun k o hk _ h1 h2 => by rw [Below.heap_setCell W ⟨x, 0, none⟩ v k (by show k ≠ x; rcases hx with rfl | rfl <;> assumption)]; exact hk⟩
theorem box_set {W : World} {x : Nat} {u : Value} {t : TypeId} (h : W.heap[x]? = some (.cells #[u] t (0, 0))) (v : Value) : (W.setCell ⟨x, 0, none⟩ v).heap[x]? = some (.cells #[v] t (0, 0)) := by
  have := heap_setCell_same W x 0 #[u] t v h
  simpa using this
theorem far_set {W : World} {x k : Nat} {o : Obj} (h : W.heap[k]? = some o) (hne : k ≠ x) (v : Value) : (W.setCell ⟨x, 0, none⟩ v).heap[k]? = some o := by rw [Below.heap_setCell W ⟨x, 0, none⟩ v k hne]; exact h
theorem row_far {W : World} {x g m : Nat} {t : TypeId} {f : Nat → Value} (h : RowV W t g m f) (hne : g ≠ x) (v : Value) : RowV (W.setCell ⟨x, 0, none⟩ v) t g m f := by
  obtain ⟨cur, hc, hr⟩ := h
  exact ⟨cur, far_set hc hne v, hr⟩
theorem round_end {p q l d : Nat} {rec rb : Loop} {w W V V' : World} {pre : List (List Int)} {xi : List Int} (hJ : GrJ p q l d rec w pre W) (hV : W.putObj l (.loop rb) = V) (hrb : ({ rb with state := .ready, pending := none } : Loop) = rec) (hlw : w.heap.size ≤ l) (hld : l ≠ d)
    (hb : BoxAt V' p q (stepG (pre.foldl stepG ([], 0)) xi)) (hl : V'.heap[l]? = some (.loop rb)) (hd : V'.heap[d]? = some (.deferred (some []))) (hB : Below w.heap.size V V') (hk : KpX p q V V') :
    ∃ v w', (Instr.endRound l none).run Tryz.prog V' = .ok v w' ∧ (Ending.returned v = .returned (.bool true) ∧ GrJ p q l d rec w (pre ++ [xi]) w' ∧ KpX p q W w') := by
  have he := run_endRound (P := Tryz.prog) none hl
  have hrb' : ({ rb with state := if (none : Option Code).isNone then .ready else .done, pending := none } : Loop) = rec := hrb
  rw [hrb'] at he
  have hg := grownBy_putObj' V' l (.loop rec)
  have hnc : ∀ k cs t f, V'.heap[k]? = some (.cells cs t f) → some k ≠ some l := fun k cs t f hk e => by have := Option.some.inj e; rw [this, hl] at hk; cases hk
  refine ⟨_, _, he, rfl, ⟨?_, World.putObj_heap_same (Array.getElem?_eq_some_iff.1 hl).1, heap_kept hd hg (fun e => hld (Option.some.inj e).symm), ?_⟩, ?_⟩
  · rw [List.foldl_append]
    exact hb.grown hg hnc
  · have b1 : Below w.heap.size W V := hV ▸ ((Below.refl w.heap.size W).grown (grownBy_putObj' W l (.loop rb)) hJ.bel.size (fun k e => by cases e; exact hlw))
    exact ((hJ.bel.trans b1).trans hB).trans ((Below.refl w.heap.size V').grown hg (Nat.le_trans hJ.bel.size (Nat.le_trans b1.size hB.size)) (fun k e => by cases e; exact hlw))
  · have k1 : KpX p q W V := hV ▸ kpx_put hJ.rc rfl rfl
    exact (k1.trans hk).trans (kpx_put hl rfl rfl)
set_option maxHeartbeats 8000000 in
set_option maxRecDepth 100000 in
theorem greatest_any (L : List St) (S : List D3) (ar br : Option Addr) (cr dr s1 s2 : Nat) (w : World) (hk : skyB L = true) (hm : S.length ≤ 6) (h1 : w.cell? ⟨s1, 0, none⟩ = some (.slice ar L.length cr)) (h2 : w.cell? ⟨s2, 0, none⟩ = some (.slice br S.length dr)) (hS : Stars w ar L L.length) (hD : Dirs w br S S.length) (hA : ∀ y, ar = some y → y.block < w.heap.size) (hB : ∀ y, br = some y → y.block < w.heap.size) (n : Nat) :
    CallsIn Fence.wide n Tryz.prog 201 #[.func (.func 216) #[] #[.pointer (some ⟨s1, 0, none⟩), .pointer (some ⟨s2, 0, none⟩)]] w fun e w' => (∃ v, e = .returned (.tuple #[v, .int .i64 (wrap64 ((greatR L S).2 : Int))]) ∧ (((greatR L S).1 = [] ∧ v = .slice none 0 0) ∨ ∃ g, v = .slice (some ⟨g, 0, none⟩) (greatR L S).1.length (greatR L S).1.length ∧ w.heap.size ≤ g ∧ RowV w' 2 g ((greatR L S).1.length * 1) (numV (greatR L S).1))) ∧ Below w.heap.size w w' ∧ (greatR L S).1.length ≤ 6 := by
  refine callsIn_of_wp_marks Tryz.func201 rfl trivial ?_ rfl
  simp only [Tryz.ntmps201, List.size_toArray, List.length_cons, List.length_nil, Nat.reduceAdd, Nat.reduceSub, Array.replicate_succ, Array.replicate_zero, List.push_toArray, List.append_toArray, List.nil_append, List.cons_append]
  gi_wp2
  have B0 := below2 w (.cells #[.slice none 0 0] 188) (.cells #[.int .i64 0] 2)
  have hz0 : ((w.alloc (.cells #[.slice none 0 0] 188)).alloc (.cells #[.int .i64 0] 2)).heap.size = w.heap.size + 2 := by simp
  have hp0 : ((w.alloc (.cells #[.slice none 0 0] 188)).alloc (.cells #[.int .i64 0] 2)).heap[w.heap.size]? = some (.cells #[.slice none 0 0] 188 (0, 0)) := (Below.heap_alloc _ _ _ (by simp)).trans (World.alloc_heap_new w _)
  have hq0 : ((w.alloc (.cells #[.slice none 0 0] 188)).alloc (.cells #[.int .i64 0] 2)).heap[w.heap.size + 1]? = some (.cells #[.int .i64 0] 2 (0, 0)) := by
    have := World.alloc_heap_new (w.alloc (.cells #[.slice none 0 0] 188)) (.cells #[.int .i64 0] 2)
    rw [World.size_alloc] at this
    exact this
  generalize hW0 : (w.alloc (.cells #[.slice none 0 0] 188)).alloc (.cells #[.int .i64 0] 2) = W0 at *
  clear hW0
  refine rangeWhole rfl (enters_of Tryz.func216 (by kernel_rfl) rfl) ?_
  intro rec hst hpe htm hpa has hbo
  have B1 : Below W0.heap.size W0 ((W0.alloc (.deferred (some []))).alloc (.loop rec)) := below2 W0 _ _
  have hz1 : ((W0.alloc (.deferred (some []))).alloc (.loop rec)).heap.size = w.heap.size + 4 := by simp; omega
  have hl1 : ((W0.alloc (.deferred (some []))).alloc (.loop rec)).heap[W0.heap.size + 1]? = some (.loop rec) := by
    have := World.alloc_heap_new (W0.alloc (.deferred (some []))) (.loop rec)
    rw [World.size_alloc] at this
    exact this
  have hd1 : ((W0.alloc (.deferred (some []))).alloc (.loop rec)).heap[W0.heap.size]? = some (.deferred (some [])) := (Below.heap_alloc _ _ _ (by simp)).trans (World.alloc_heap_new W0 _)
  generalize hW1 : (W0.alloc (.deferred (some []))).alloc (.loop rec) = W1 at *
  clear hW1
  rw [hz0] at hl1 hd1 ⊢
  have Bw := below_call B0 B1
  have Jst : GrJ w.heap.size (w.heap.size + 1) (w.heap.size + 2 + 1) (w.heap.size + 2) rec w [] W1 := ⟨⟨⟨_, by rw [B1.block _ (by omega)]; exact hp0, .inl ⟨rfl, rfl⟩⟩, by rw [B1.block _ (by omega), hq0]; exact congrArg (fun z => some (Obj.cells #[Value.int .i64 z] 2 (0, 0))) (show (0 : Int) = wrap64 0 from (wrap_id (by omega) (by omega)).symm), by simp⟩, hl1, hd1, Bw⟩
  refine (clos_in L S ar br cr dr (w.heap.size + 2 + 1) w.heap.size (w.heap.size + 1) s1 s2 (n - 1) (GrJ w.heap.size (w.heap.size + 1) (w.heap.size + 2 + 1) (w.heap.size + 2) rec w) W1 hk hm (cellK5 h1 Bw) (cellK5 h2 Bw) (hS.kept Bw) (hD.kept Bw) (fun y e => by have := hA y e; omega) (fun y e => by have := hB y e; omega) (by omega) (by omega) (fun b hb => GrJ.abides (by omega)) GrJ.below ?round Jst).mono ?behind
  case round =>
    clear Jst B1 Bw hl1 hd1 hp0 hq0 B0
    intro m pre x W hJ hW0 hx hlen
    obtain ⟨xi, xg⟩ := x
    unfold namH at hx
    unfold namV
    dsimp only at hx hlen hW0 ⊢
    have hfar : w.heap.size ≤ xg := by
      obtain ⟨W0', hJ0, h0⟩ := hW0
      have := (Array.getElem?_eq_some_iff.1 hJ0.rc).1
      omega
    clear hW0
    refine ⟨rec.fn, _, rec.assign, rec.body, run_yield hJ.rc (by rw [hpa]; rfl), roundIn_of_wpIn trivial ?_⟩
    rw [has, hbo, htm, hpa]
    have hW2 := hJ.rc
    have hbeg := run_beginRound (P := Tryz.prog) hJ.rc hst
    have hG2 := grownBy_putObj' W (w.heap.size + 2 + 1) (.loop { rec with state := .busy })
    have hnc : ∀ k cs t f, W.heap[k]? = some (.cells cs t f) → some k ≠ some (w.heap.size + 2 + 1) := fun k cs t f hk e => by have := Option.some.inj e; rw [this, hJ.rc] at hk; cases hk
    have hBx := hJ.box.grown hG2 hnc
    have hX2 : RowV (W.putObj (w.heap.size + 2 + 1) (.loop { rec with state := .busy })) 2 xg (xi.length * 1) (numV xi) := by obtain ⟨cur, hc, hr⟩ := hx; exact ⟨cur, heap_kept hc hG2 (hnc _ _ _ _ hc), hr⟩
    have hl2 : (W.putObj (w.heap.size + 2 + 1) (.loop { rec with state := .busy })).heap[w.heap.size + 2 + 1]? = some (.loop { rec with state := .busy }) := World.putObj_heap_same (Array.getElem?_eq_some_iff.1 hJ.rc).1
    have HBx := yz hBx
    have HX := yz hX2
    have HL2 := yz hl2
    have HJ := yz hJ
    have HG2 := yz hG2
    have HRB : Hid (({ ({ rec with state := .busy } : Loop) with state := .ready, pending := none } : Loop) = rec) := yz (by cases rec; simp_all)
    clear hBx hX2 hl2 hJ hx hnc hG2 hW2 has hbo htm hpa hpe hst
    generalize hrb : ({ rec with state := .busy } : Loop) = rb at *
    clear hrb
    have cN := yz (fun (j : Nat) => CallsIn.inRound (w.heap.size + 2 + 1) ((callsIn_wide (n := j)).2 (countNamed_any xi (some ⟨xg, 0, none⟩) xi.length _ (by omega) (nums_of (yx HX)))))
    gi_wp2
    refine ⟨trivial, fun h => (by cases h), ?_⟩
    refine (yx cN _).mono ?_
    rintro e V1 ⟨rfl, hV1⟩
    generalize hV : W.putObj (w.heap.size + 2 + 1) (.loop rb) = V at *
    subst hV1
    obtain ⟨G, hG⟩ : ∃ G, pre.foldl stepG ([], 0) = G := ⟨_, rfl⟩
    rw [hG] at HBx
    have HG := yz hG
    clear hG hbeg cN
    obtain ⟨Gm, Ga⟩ := G
    obtain ⟨⟨vm, hvm, hmost⟩, halike, hlenG⟩ := yx HBx
    dsimp only at hmost halike hlenG
    have HD2 : Hid (V1.heap[w.heap.size + 2]? = some (.deferred (some []))) := yz (by rw [← hV]; exact heap_kept (yx HJ).df (grownBy_putObj' W _ _) (fun e => by have := Option.some.inj e; omega))
    have hV1s : w.heap.size + 4 ≤ V1.heap.size := by have := (Array.getElem?_eq_some_iff.1 (yx HL2)).1; omega
    obtain ⟨am, cm, hvf, hnm⟩ : ∃ am cm, vm = .slice am Gm.length cm ∧ Nums V1 am Gm Gm.length := by
      rcases hmost with ⟨e1, e2⟩ | ⟨g, e, _, _, _, hr⟩
      · exact ⟨none, 0, by rw [e1, e2]; rfl, .inl (by rw [e1]; rfl)⟩
      · exact ⟨_, _, e, nums_of hr⟩
    subst hvf
    have HM := yz hmost
    have HVM := yz hvm
    have HAL := yz halike
    obtain ⟨m0, m1⟩ := box_cell hvm
    obtain ⟨a0, a1⟩ := box_cell halike
    have cM := yz (fun (j : Nat) => CallsIn.inRound (w.heap.size + 2 + 1) ((callsIn_wide (n := j)).2 (countNamed_any Gm am cm V1 (by omega) hnm)))
    have HSame : Hid (stepG (Gm, Ga) xi = (Gm, Ga) → ∃ v w', (Instr.endRound (w.heap.size + 2 + 1) none).run Tryz.prog V1 = .ok v w' ∧ (Ending.returned v = .returned (.bool true) ∧ GrJ w.heap.size (w.heap.size + 1) (w.heap.size + 2 + 1) (w.heap.size + 2) rec w (pre ++ [xi]) w' ∧ KpX w.heap.size (w.heap.size + 1) W w')) := yz (fun e => round_end (yx HJ) hV (yx HRB) (by omega) (by omega) (by rw [yx HG, e]; exact yx HBx) (yx HL2) (yx HD2) (Below.refl _ _) ⟨Nat.le_refl _, rfl, rfl, rfl, fun _ _ h _ _ _ => h⟩)
    clear hmost hvm halike hnm
    by_cases c3 : cntN xi < 3
    · have c3' : (cntN xi : Int) < 3 := by omega
      gi_wp2
      refine ⟨trivial, ?_⟩
      gi_wp2
      exact yx HSame (by unfold stepG; rw [if_pos (.inl c3)])
    have c3' : ¬ (cntN xi : Int) < 3 := by omega
    gi_wp2
    refine ⟨trivial, fun h => (by cases h), ?_⟩
    refine (yx cM _).mono ?_
    rintro e V2 ⟨rfl, hV2⟩
    rw [hV2]
    clear hV2 V2
    by_cases c4 : cntN xi < cntN Gm
    · have c4' : (cntN xi : Int) < (cntN Gm : Int) := by omega
      gi_wp2
      exact yx HSame (by unfold stepG; rw [if_pos (.inr c4)])
    have c4' : ¬ (cntN xi : Int) < (cntN Gm : Int) := by omega
    gi_wp2
    refine ⟨trivial, fun h => (by cases h), ?_⟩
    refine (yx cM _).mono ?_
    rintro e V2 ⟨rfl, hV2⟩
    rw [hV2]
    clear hV2 V2
    have hxl : 3 ≤ xi.length := by have := cntN_le xi; omega
    have hxp : xg ≠ w.heap.size := fun e => by
      obtain ⟨cur, hc, _⟩ := yx HX
      have h5 := yx HVM
      rw [← e, hc] at h5
      simp at h5
    have hxq : xg ≠ w.heap.size + 1 := fun e => by
      obtain ⟨cur, hc, hr⟩ := yx HX
      have h5 := yx HAL
      rw [← e, hc] at h5
      simp at h5
      have h6 := hr 1 (by omega)
      rw [h5] at h6
      simp at h6
    by_cases c5 : cntN Gm < cntN xi
    · have c5' : (cntN Gm : Int) < (cntN xi : Int) := by omega
      gi_wp2
      have hst : stepG (Gm, Ga) xi = (xi, 1) := by unfold stepG; dsimp only; rw [if_neg (by rintro (h | h) <;> omega), if_pos c5]
      refine round_end (yx HJ) hV (yx HRB) (by omega) (by omega) ?_ (far_set (far_set (yx HL2) (by omega) _) (by omega) _) (far_set (far_set (yx HD2) (by omega) _) (by omega) _) (((Below.refl w.heap.size V1).setCell (p := ⟨w.heap.size, 0, none⟩) (Nat.le_refl _) _).setCell (p := ⟨w.heap.size + 1, 0, none⟩) (by show w.heap.size ≤ w.heap.size + 1; omega) _) ((kpx_set V1 _ (.inl rfl)).trans (kpx_set _ _ (.inr rfl)))
      rw [yx HG, hst]
      refine ⟨⟨_, far_set (box_set (yx HVM) _) (by omega) _, .inr ⟨xg, rfl, hfar, hxp, hxq, row_far (row_far (yx HX) hxp _) hxq _⟩⟩, ?_, hlen⟩
      have h7 := box_set (far_set (x := w.heap.size) (yx HAL) (by omega) (Value.slice (some ⟨xg, 0, none⟩) xi.length xi.length)) (Value.int .i64 1)
      rw [show wrap64 (((xi, 1) : List Int × Nat).2 : Int) = 1 from wrap_id (n := 1) (by omega) (by omega)]
      exact h7
    · have c5' : ¬ (cntN Gm : Int) < (cntN xi : Int) := by omega
      gi_wp2
      have hst : stepG (Gm, Ga) xi = (Gm, Ga + 1) := by unfold stepG; dsimp only; rw [if_neg (by rintro (h | h) <;> omega), if_neg c5]
      refine round_end (yx HJ) hV (yx HRB) (by omega) (by omega) ?_ (far_set (yx HL2) (by omega) _) (far_set (yx HD2) (by omega) _) ((Below.refl w.heap.size V1).setCell (p := ⟨w.heap.size + 1, 0, none⟩) (by show w.heap.size ≤ w.heap.size + 1; omega) _) (kpx_set V1 _ (.inr rfl))
      rw [yx HG, hst]
      refine ⟨⟨_, far_set (yx HVM) (by omega) _, ?_⟩, ?_, hlenG⟩
      · rcases yx HM with h | ⟨g, e, n0, n1, n2, hr⟩
        · exact .inl h
        · exact .inr ⟨g, e, n0, n1, n2, row_far hr n2 _⟩
      · have h7 := box_set (yx HAL) (Value.int .i64 (wrap64 (wrap64 (Ga : Int) + 1)))
        rw [h7]
        have e8 : wrap64 (wrap64 (Ga : Int) + 1) = wrap64 (((Gm, Ga + 1) : List Int × Nat).2 : Int) := by
          show wrap64 (wrap64 (Ga : Int) + 1) = wrap64 ((Ga + 1 : Nat) : Int)
          exact wrap_step Ga
        rw [e8]
  case behind =>
    rintro e W' ⟨⟨v, rfl⟩, hJ⟩
    refine ⟨⟨_, rfl⟩, hJ.rc, ?_⟩
    have hne : ∀ k cs t f, W'.heap[k]? = some (.cells cs t f) → some k ≠ some (w.heap.size + 2 + 1) := fun k cs t f hk e => by have := Option.some.inj e; rw [this, hJ.rc] at hk; cases hk
    have hBx := fun o => hJ.box.grown (grownBy_putObj' W' (w.heap.size + 2 + 1) o) hne
    have HBx := yz hBx
    have HDf := yz (fun o => heap_kept hJ.df (grownBy_putObj' W' (w.heap.size + 2 + 1) o) (fun e => by have := Option.some.inj e; omega))
    have HBl := yz (fun o => hJ.bel.trans ((Below.refl w.heap.size W').grown (grownBy_putObj' W' (w.heap.size + 2 + 1) o) hJ.bel.size (fun k e => by cases e; omega)))
    obtain ⟨⟨vm, hvm, hmost⟩, halike, hlen6⟩ := hJ.box
    have m0 := fun o => (box_cell (heap_kept hvm (grownBy_putObj' W' (w.heap.size + 2 + 1) o) (hne _ _ _ _ hvm))).1
    have a0 := fun o => (box_cell (heap_kept halike (grownBy_putObj' W' (w.heap.size + 2 + 1) o) (hne _ _ _ _ halike))).1
    have HM := yz hmost
    have HNe := yz hne
    clear hBx hvm hmost halike hne hJ B1 Bw hl1 hd1 hp0 hq0 B0 Jst has hbo htm hpa hpe hst
    gi_wp2
    gi_region
    gi_wp2
    refine ⟨by simp, .inl ⟨w.heap.size + 2, _, rfl, run_takeDeferred (yx HDf _), ?_⟩⟩
    have HBy := yz (fun o => (yx HBl o).drew.trans ((Below.refl w.heap.size _).grown (grownBy_putObj' (W'.putObj (w.heap.size + 2 + 1) o).drew (w.heap.size + 2) (.deferred none)) (yx HBl o).size (fun k e => by cases e; omega)))
    refine ⟨_, by simp [results, go_sem]; rfl, ⟨vm, rfl, ?_⟩, yx HBy _, hlen6⟩
    rcases yx HM with h | ⟨g, e, n0, n1, n2, hr⟩
    · exact .inl h
    · refine .inr ⟨g, e, n0, ?_⟩
      obtain ⟨cur, hc, hr⟩ := hr
      have k1 := fun o => heap_kept hc (grownBy_putObj' W' (w.heap.size + 2 + 1) o) (yx HNe _ _ _ _ hc)
      have hgd : g ≠ w.heap.size + 2 := fun e => by
        have h2 := yx HDf (.deferred none)
        have h3 := k1 (.deferred none)
        rw [e, h2] at h3
        cases h3
      have k2 : ∀ o, ((W'.putObj (w.heap.size + 2 + 1) o).drew.putObj (w.heap.size + 2) (.deferred none)).heap[g]? = some (.cells cur 2 (0, 0)) := fun o => (World.putObj_heap_other hgd).trans (k1 o)
      exact ⟨cur, k2 _, hr⟩
set_option maxHeartbeats 4000000 in
set_option maxRecDepth 100000 in
theorem namings_any (L : List St) (S : List D3) (ar br : Option Addr) (cr dr : Nat) (w : World) :
    Calls Tryz.prog 202 #[.slice ar L.length cr, .slice br S.length dr] w fun e w' => e = .returned (.func (.func 216) #[] #[.pointer (some ⟨w.heap.size, 0, none⟩), .pointer (some ⟨w.heap.size + 1, 0, none⟩)]) ∧ w'.cell? ⟨w.heap.size, 0, none⟩ = some (.slice ar L.length cr) ∧ w'.cell? ⟨w.heap.size + 1, 0, none⟩ = some (.slice br S.length dr) ∧ Below w.heap.size w w' := by
  go_enter Tryz.func202, Tryz.ntmps202
  go_wp2
  refine bodyPost_ret (v := .func (.func 216) #[] #[.pointer (some ⟨w.heap.size, 0, none⟩), .pointer (some ⟨w.heap.size + 1, 0, none⟩)]) (by simp [results, go_sem]) rfl ⟨rfl, ?_, ?_, below2 w _ _⟩
  · exact cellK5 (by simp) (below1 _ _)
  · have := World.alloc_heap_new (w.alloc (.cells #[.slice ar L.length cr] 34)) (.cells #[.slice br S.length dr] 42)
    rw [World.size_alloc] at this
    exact (box_cell this).1
def OutP (w' : World) (B : Nat) (ids : List Int) (cnt code : Int) (e : Ending) : Prop := ∃ v, e = .returned (.agg #[v, .int .i64 cnt, .int .i64 code]) ∧ ((ids = [] ∧ v = .slice none 0 0) ∨ ∃ g, v = .slice (some ⟨g, 0, none⟩) ids.length ids.length ∧ B ≤ g ∧ RowV w' 2 g (ids.length * 1) (numV ids))
theorem res_ident (T : Array Value) (X : World) (b : Nat) (v : Value) (c k : Int) (hT : T.getD 4 undef = .pointer (some ⟨b, 0, none⟩)) (h : IdO X b v c k) : (results Tryz.f184 T).run Tryz.prog X = .ok (.agg #[v, .int .i64 c, .int .i64 k]) X := by
  obtain ⟨h0, h1, h2⟩ := h
  simp only [Array.getD_eq_getD_getElem?] at hT
  simp [results, Tryz.results184, go_sem, hT, h0, h1, h2]
theorem row_farO {W : World} {x g m : Nat} {t : TypeId} {f : Nat → Value} (h : RowV W t g m f) (hne : g ≠ x) (o : Nat) (v : Value) : RowV (W.setCell ⟨x, o, none⟩ v) t g m f := by
  obtain ⟨cur, hc, hr⟩ := h
  exact ⟨cur, by rw [Below.heap_setCell W ⟨x, o, none⟩ v g hne]; exact hc, hr⟩
theorem foldG_le : ∀ (X : List (List Int)) (g : List Int × Nat), (X.foldl stepG g).2 ≤ g.2 + X.length
  | [], g => by simp
  | x :: X, g => by
    have h1 := foldG_le X (stepG g x)
    have h2 : (stepG g x).2 ≤ g.2 + 1 := by
      unfold stepG
      split
      · exact Nat.le_succ _
      · split
        · show 1 ≤ g.2 + 1; omega
        · exact Nat.le_refl _
    rw [List.foldl_cons, List.length_cons]
    omega
theorem greatR_le (L : List St) (S : List D3) (hk : skyB L = true) (hm : S.length ≤ 6) : (greatR L S).2 ≤ 4826809 := by
  have h1 := foldG_le (allN (fitF L S) (L.map (·.1)) S.length []) ([], 0)
  have h2 := allN_len (fitF L S) (L.map (·.1)) (by rw [List.length_map]; exact (sky_ok hk).1) S.length []
  have h3 : 13 ^ S.length ≤ 13 ^ 6 := Nat.pow_le_pow_right (by omega) hm
  have h4 : (13 : Nat) ^ 6 = 4826809 := by decide
  unfold greatR
  rw [h4] at h3
  exact Nat.le_trans h1 (by show 0 + _ ≤ _; omega)
theorem outP_none {w' : World} {B : Nat} {L : List St} {S : List D3} {k : Int} (h : identL L S = [] ∧ identC L S = 0 ∧ identK L S = k) : OutP w' B (identL L S) (identC L S) (identK L S) (.returned (.agg #[.slice none 0 0, .int .i64 0, .int .i64 k])) := by
  rw [h.1, h.2.1, h.2.2]
  exact ⟨_, rfl, .inl ⟨rfl, rfl⟩⟩
set_option maxHeartbeats 4000000 in
set_option maxRecDepth 100000 in
theorem identify_any (L : List St) (S : List D3) (ar br : Option Addr) (cr dr : Nat) (p : Addr) (w : World) (hn : L.length ≤ 1048576) (hm : S.length ≤ 1048576) (hcr : L.length ≤ cr) (hc9 : cr ≤ 9223372036854775807) (hdr : S.length ≤ dr) (hd9 : dr ≤ 9223372036854775807) (hS : Stars w ar L L.length) (hD : Dirs w br S S.length) (hA : ∀ y, ar = some y → y.block < w.heap.size) (hB : ∀ y, br = some y → y.block < w.heap.size) (hE : ErrSky p w) :
    Calls Tryz.prog 184 #[.slice ar L.length cr, .slice br S.length dr] w fun e w' => OutP w' w.heap.size (identL L S) (identC L S) (identK L S) e ∧ Below w.heap.size w w' := by
  have B0 := below1 w (.cells #[.slice none 0 0, .int .i64 0, .int .i64 0] 196)
  by_cases hbig : 400 < L.length ∨ 400 < S.length
  · have HO := yz (ident_big hbig)
    by_cases h4 : 400 < L.length
    · have h4' : (400 : Int) < (L.length : Int) := by omega
      go_enter Tryz.func184, Tryz.ntmps184
      go_wp2
      exact bodyPost_ret (v := .agg #[.slice none 0 0, .int .i64 0, .int .i64 2]) (by simp [results, Tryz.results184, go_sem]) rfl ⟨outP_none (yx HO), below1 _ _⟩
    · have h4' : ¬ (400 : Int) < (L.length : Int) := by omega
      have h5' : (400 : Int) < (S.length : Int) := by omega
      go_enter Tryz.func184, Tryz.ntmps184
      go_wp2
      exact bodyPost_ret (v := .agg #[.slice none 0 0, .int .i64 0, .int .i64 2]) (by simp [results, Tryz.results184, go_sem]) rfl ⟨outP_none (yx HO), below1 _ _⟩
  have h4' : ¬ (400 : Int) < (L.length : Int) := by omega
  have h5' : ¬ (400 : Int) < (S.length : Int) := by omega
  have R0 : IdO (w.alloc (.cells #[.slice none 0 0, .int .i64 0, .int .i64 0] 196)) w.heap.size (.slice none 0 0) 0 0 := by refine ⟨?_, ?_, ?_⟩ <;> simp
  have F0 : FreeX (w.alloc (.cells #[.slice none 0 0, .int .i64 0, .int .i64 0] 196)) w.heap.size := fun i => by simp
  have hsz : w.heap.size + 1 ≤ (w.alloc (.cells #[.slice none 0 0, .int .i64 0, .int .i64 0] 196)).heap.size := by simp
  have cS := yz (fun (W : World) h h2 => skyRight_any L ar cr p W hn hcr hc9 h h2)
  have HE := yz (hE.kept B0)
  have cD := yz (fun (W : World) h => spotsRight_any S br dr W hm hdr hd9 h)
  have HB := yz B0
  have HR := yz R0
  have HF := yz F0
  have HS := yz (hS.kept B0)
  have HD := yz (hD.kept B0)
  clear B0 R0 F0 hS hD hE
  go_enter Tryz.func184, Tryz.ntmps184
  go_wp2_with fail
  generalize hW : w.alloc (.cells #[.slice none 0 0, .int .i64 0, .int .i64 0] 196) = W at *
  clear hW
  refine (yx cS _ (yx HS) (yx HE)).mono ?_
  rintro e w1 ⟨rfl, hx⟩
  have B1 := yz (below_call (yx HB) hx)
  have R1 := yz ((yx HR).kept hx)
  have F1 := yz ((yx HF).kept (by omega) hx)
  have S1 := yz ((yx HS).kept hx)
  have D1 := yz ((yx HD).kept hx)
  have hsz1 : w.heap.size + 1 ≤ w1.heap.size := Nat.le_trans hsz hx.size
  clear hx HB HR HF HS HD hsz cS
  cases hk : skyB L
  · have HO := yz (ident_no hbig (by unfold idOk; rw [hk]; rfl))
    obtain ⟨r0, r1, r2⟩ := yx R1
    have f0 := yx F1 0
    have f1 := yx F1 1
    have f2 := yx F1 2
    go_wp2_with fail
    clear r0 r1 r2 f0 f1 f2
    exact bodyPost_ret (v := .agg #[.slice none 0 0, .int .i64 0, .int .i64 1]) (res_ident _ _ w.heap.size _ 0 1 rfl (idO_set (yx R1) _ _ _)) rfl ⟨outP_none (yx HO), ((((yx B1).setCell (Nat.le_refl _) _).setCell (Nat.le_refl _) _).setCell (Nat.le_refl _) _)⟩
  go_wp2_with fail
  refine (yx cD _ (yx D1)).mono ?_
  rintro e w2 ⟨rfl, hx⟩
  have B2 := yz (below_call (yx B1) hx)
  have R2 := yz ((yx R1).kept hx)
  have F2 := yz ((yx F1).kept (by omega) hx)
  have S2 := yz ((yx S1).kept hx)
  have D2 := yz ((yx D1).kept hx)
  have hsz2 : w.heap.size + 1 ≤ w2.heap.size := Nat.le_trans hsz1 hx.size
  clear hx B1 R1 F1 S1 D1 hsz1 cD
  cases hp : spotsB S
  · have HO := yz (ident_no hbig (by unfold idOk; rw [hp, Bool.and_false]))
    obtain ⟨r0, r1, r2⟩ := yx R2
    have f0 := yx F2 0
    have f1 := yx F2 1
    have f2 := yx F2 2
    go_wp2_with fail
    clear r0 r1 r2 f0 f1 f2
    exact bodyPost_ret (v := .agg #[.slice none 0 0, .int .i64 0, .int .i64 1]) (res_ident _ _ w.heap.size _ 0 1 rfl (idO_set (yx R2) _ _ _)) rfl ⟨outP_none (yx HO), ((((yx B2).setCell (Nat.le_refl _) _).setCell (Nat.le_refl _) _).setCell (Nat.le_refl _) _)⟩
  have HO := yz (ident_yes hbig (by unfold idOk; rw [hk, hp]; rfl))
  have hs6 : S.length ≤ 6 := (spots_ok hp).1
  have hgb := greatR_le L S hk hs6
  clear hp
  go_wp2_with fail
  refine (namings_any L S ar br cr dr w2).mono ?_
  rintro e w3 ⟨rfl, p1, p2, hx⟩
  have B3 := yz (below_call (yx B2) hx)
  have R3 := yz ((yx R2).kept hx)
  have F3 := yz ((yx F2).kept (by omega) hx)
  have S3 := yz ((yx S2).kept hx)
  have D3' := yz ((yx D2).kept hx)
  have hsz3 : w.heap.size + 1 ≤ w3.heap.size := Nat.le_trans hsz2 hx.size
  have cG := yz ((callsIn_wide (n := 0)).1 (greatest_any L S ar br cr dr w2.heap.size (w2.heap.size + 1) w3 hk hs6 p1 p2 (yx S3) (yx D3') (fun y e => by have := hA y e; omega) (fun y e => by have := hB y e; omega) 0))
  clear p1 p2 hx B2 R2 F2 S2 D2 hk
  go_wp2_with fail
  refine (yx cG).mono ?_
  rintro e w4 ⟨⟨v, rfl, hv⟩, hx, hl6⟩
  have B4 := yz (below_call (yx B3) hx)
  have R4 := yz ((yx R3).kept hx)
  have F4 := yz ((yx F3).kept (by omega) hx)
  have hsz4 : w.heap.size + 1 ≤ w4.heap.size := Nat.le_trans hsz3 hx.size
  have HV := yz hv
  clear hx hv B3 R3 F3 S3 D3' cG
  rw [wrap_id (n := ((greatR L S).2 : Int)) (by omega) (by omega)]
  have HG := yz (great_same L S)
  obtain ⟨Gi, hGi⟩ : ∃ G, (greatR L S) = G := ⟨_, rfl⟩
  rw [hGi] at HV HG hgb hl6 ⊢
  clear hGi
  obtain ⟨gi, ga⟩ := Gi
  dsimp only at HV HG hgb hl6 ⊢
  obtain ⟨r0, r1, r2⟩ := yx R4
  have f0 := yx F4 0
  have f1 := yx F4 1
  have f2 := yx F4 2
  by_cases c0 : ga = 0
  · have c0' : (ga : Int) = 0 := by omega
    go_wp2_with fail
    clear r0 r1 r2 f0 f1 f2
    have h8 : identL L S = [] ∧ identC L S = 0 ∧ identK L S = 6 := ⟨by rw [(yx HO).1, (yx HG).1, if_neg (by omega)], by rw [(yx HO).2.1, (yx HG).2.1, if_neg (by omega)], by rw [(yx HO).2.2, (yx HG).2.2, if_pos c0]⟩
    exact bodyPost_ret (v := .agg #[.slice none 0 0, .int .i64 0, .int .i64 6]) (res_ident _ _ w.heap.size _ 0 6 rfl (idO_set (yx R4) _ _ _)) rfl ⟨outP_none h8, ((((yx B4).setCell (Nat.le_refl _) _).setCell (Nat.le_refl _) _).setCell (Nat.le_refl _) _)⟩
  have c0' : ¬ (ga : Int) = 0 := by omega
  by_cases c1 : 1 < ga
  · have c1' : (1 : Int) < (ga : Int) := by omega
    go_wp2_with fail
    clear r0 r1 r2 f0 f1 f2
    have h8 : identL L S = [] ∧ identC L S = 0 ∧ identK L S = 11 := ⟨by rw [(yx HO).1, (yx HG).1, if_neg (by omega)], by rw [(yx HO).2.1, (yx HG).2.1, if_neg (by omega)], by rw [(yx HO).2.2, (yx HG).2.2, if_neg c0, if_pos c1]⟩
    exact bodyPost_ret (v := .agg #[.slice none 0 0, .int .i64 0, .int .i64 11]) (res_ident _ _ w.heap.size _ 0 11 rfl (idO_set (yx R4) _ _ _)) rfl ⟨outP_none h8, ((((yx B4).setCell (Nat.le_refl _) _).setCell (Nat.le_refl _) _).setCell (Nat.le_refl _) _)⟩
  have c1' : ¬ (1 : Int) < (ga : Int) := by omega
  have hga : ga = 1 := by omega
  have h8 : identL L S = gi ∧ identC L S = (cntN gi : Int) ∧ identK L S = 0 := ⟨by rw [(yx HO).1, (yx HG).1, if_pos hga], by rw [(yx HO).2.1, (yx HG).2.1, if_pos hga], by rw [(yx HO).2.2, (yx HG).2.2, if_neg c0, if_neg c1]⟩
  obtain ⟨va, vc, rfl, hnm⟩ : ∃ a c, v = .slice a gi.length c ∧ Nums w4 a gi gi.length := by
    rcases yx HV with ⟨e1, e2⟩ | ⟨g, e, _, hr⟩
    · exact ⟨none, 0, by rw [e1, e2]; rfl, .inl (by rw [e1]; rfl)⟩
    · exact ⟨_, _, e, nums_of hr⟩
  have cN := yz (countNamed_any gi va vc w4 (by omega) hnm)
  clear hnm
  go_wp2_with fail
  refine (yx cN).mono ?_
  rintro e w5 ⟨rfl, hw5⟩
  subst hw5
  go_wp2_with fail
  clear r0 r1 r2 f0 f1 f2
  rw [h8.1, h8.2.1, h8.2.2]
  refine bodyPost_ret (v := .agg #[.slice va gi.length vc, .int .i64 (cntN gi : Int), .int .i64 0]) (res_ident _ _ w.heap.size _ (cntN gi : Int) 0 rfl (idO_set (yx R4) _ _ _)) rfl ⟨⟨_, rfl, ?_⟩, ((((yx B4).setCell (Nat.le_refl _) _).setCell (Nat.le_refl _) _).setCell (Nat.le_refl _) _)⟩
  rcases yx HV with h | ⟨g, e, hg, hr⟩
  · exact .inl h
  · have hne : g ≠ w.heap.size := by omega
    exact .inr ⟨g, e, by omega, row_farO (row_farO (row_farO hr hne 0 _) hne 1 _) hne 2 _⟩
end Go.Proofs.YteoonaanoenjiaaGreatDoor
namespace Go.Proofs.YteoonaanoenjiaaGreatDoor
open Go.RowKit Go.Sort
set_option linter.unusedVariables false
theorem allN_long (F : List Int → Int → Bool) (A : List Int) : ∀ (r : Nat) (ids l : List Int), l ∈ allN F A r ids → l.length = ids.length + r
  | 0, ids, l, h => by
    simp only [allN, List.mem_singleton] at h
    subst h
    omega
  | r + 1, ids, l, h => by
    simp only [allN, List.mem_append, List.mem_flatMap] at h
    rcases h with ⟨a, _, h⟩ | h
    · have := allN_long F A r _ l h
      rw [List.length_append] at this
      simp at this
      omega
    · have := allN_long F A r _ l h
      rw [List.length_append] at this
      simp at this
      omega
theorem foldG_long (m : Nat) : ∀ (X : List (List Int)) (g : List Int × Nat), (∀ l ∈ X, l.length ≤ m) → g.1.length ≤ m → (X.foldl stepG g).1.length ≤ m
  | [], g, _, h => h
  | x :: X, g, hX, h => by
    rw [List.foldl_cons]
    refine foldG_long m X _ (fun l hl => hX l (List.mem_cons_of_mem _ hl)) ?_
    unfold stepG
    split
    · exact h
    · split
      · exact hX x (List.mem_cons_self ..)
      · exact h
theorem identL_len (L : List St) (S : List D3) : (identL L S).length ≤ 6 := by
  by_cases hb : 400 < L.length ∨ 400 < S.length
  · rw [(ident_big hb).1]; simp
  · cases ho : idOk L S
    · rw [(ident_no hb ho).1]; simp
    · rw [(ident_yes hb ho).1, (great_same L S).1]
      have hp : spotsB S = true := by unfold idOk at ho; simp at ho; exact ho.2
      have h6 := (spots_ok hp).1
      split
      · refine Nat.le_trans (foldG_long S.length _ _ (fun l hl => ?_) (by simp)) h6
        have := allN_long _ _ _ _ _ hl
        simp at this
        omega
      · simp
theorem PRow.sliceI {w : World} {t : TypeId} {c lo hi n : Nat} {v : Value} {f : Nat → Value} (h : PRow w t c lo hi n v f) : ∃ a k, v = .slice a n k := by
  rcases h with ⟨rfl, a, k, rfl⟩ | ⟨g, k, rfl, _⟩
  · exact ⟨a, k, rfl⟩
  · exact ⟨_, k, rfl⟩
theorem prow_outI {w' : World} {B : Nat} {ids : List Int} {cnt code : Int} {e : Ending} (h : OutI w' B ids cnt code e) : ∃ a k, e = .returned (.agg #[.slice a ids.length k, .int .i64 cnt, .int .i64 code]) ∧ PRow w' 2 1 B w'.heap.size ids.length (.slice a ids.length k) (valInt64S (fun j => ids.getD j 0) (fun _ => false)) := by
  obtain ⟨v, he, ho⟩ := h
  have hp : PRow w' 2 1 B w'.heap.size ids.length v (valInt64S (fun j => ids.getD j 0) (fun _ => false)) := PRow.of ho (fun j h => by
    have h' : j < ids.length := by omega
    show (ids.map (fun z => Value.int .i64 z))[j]? = some (.int .i64 (ids.getD j 0))
    rw [List.getElem?_map, List.getElem?_eq_getElem h', List.getD_eq_getElem?_getD, List.getElem?_eq_getElem h']
    rfl)
  obtain ⟨a, k, rfl⟩ := hp.sliceI
  exact ⟨a, k, he, hp⟩
def tA (L : List T4) (i : Nat) : T4 := L.getD i (0, 0, 0, 0)
theorem flatT_at : ∀ (S : List T4) (k : Nat) (b : T4), S[k]? = some b → ∀ j u, (turn4 b)[j]? = some u → (flatT S)[k * 4 + j]? = some u := by
  intro S
  induction S with
  | nil => intro k b h; simp at h
  | cons x S ih =>
    intro k b h j u hu
    have e : flatT (x :: S) = turn4 x ++ flatT S := by unfold flatT; simp
    have hj : j < 4 := (List.getElem?_eq_some_iff.1 hu).1
    rw [e]
    cases k with
    | zero =>
      simp at h
      subst h
      rw [List.getElem?_append_left (by show _ < 4; omega)]
      simpa using hu
    | succ k =>
      rw [List.getElem?_append_right (by show 4 ≤ _; omega)]
      rw [show (k + 1) * 4 + j - (turn4 x).length = k * 4 + j by show _ - 4 = _; omega]
      exact ih k b (by simpa using h) j u hu
def Turn4s (w : World) (g : Nat) (L : List T4) : Prop := g < w.heap.size ∧ ∀ k, k < L.length → w.cell? ⟨g, k * 4, none⟩ = some (.int .i64 (tA L k).1) ∧ w.cell? ⟨g, k * 4 + 1, none⟩ = some (.int .i64 (tA L k).2.1) ∧ w.cell? ⟨g, k * 4 + 2, none⟩ = some (.int .i64 (tA L k).2.2.1) ∧ w.cell? ⟨g, k * 4 + 3, none⟩ = some (.int .i64 (tA L k).2.2.2)
theorem Turn4s.kept {w w' : World} {g : Nat} {L : List T4} (h : Turn4s w g L) (hB : Below w.heap.size w w') : Turn4s w' g L := by
  refine ⟨Nat.lt_of_lt_of_le h.1 hB.size, fun k hk => ?_⟩
  obtain ⟨h0, h1, h2, h3⟩ := h.2 k hk
  exact ⟨by rw [hB.cell (p := ⟨g, k * 4, none⟩) h.1]; exact h0, by rw [hB.cell (p := ⟨g, k * 4 + 1, none⟩) h.1]; exact h1, by rw [hB.cell (p := ⟨g, k * 4 + 2, none⟩) h.1]; exact h2, by rw [hB.cell (p := ⟨g, k * 4 + 3, none⟩) h.1]; exact h3⟩
theorem turn4s_of {w : World} {B : Nat} {v : Value} {L : List T4} (h : w.ownsRow B 35 4 v L.length (flatT L)) (h0 : 0 < L.length) : ∃ g c, v = .slice (some ⟨g, 0, none⟩) L.length c ∧ B ≤ g ∧ Turn4s w g L := by
  rcases h.2 with ⟨h1, h0'⟩ | ⟨g, cap, cur, hv, hb, hg, hnc, hcm, hcs, htake⟩
  · omega
  · refine ⟨g, cap, hv, hb, (Array.getElem?_eq_some_iff.1 hg).1, fun k hk => ?_⟩
    have hk' : L[k]? = some (tA L k) := by unfold tA; rw [List.getD, List.getElem?_eq_getElem hk]; rfl
    have cl : ∀ j u, (turn4 (tA L k))[j]? = some u → w.cell? ⟨g, k * 4 + j, none⟩ = some u := by
      intro j u hu
      have hj : j < 4 := (List.getElem?_eq_some_iff.1 hu).1
      have e := flatT_at L k _ hk' j u hu
      rw [cell_of_row w g _ cur _ _ hg]
      rw [← htake, List.getElem?_take, if_pos (by omega)] at e
      simpa using e
    exact ⟨cl 0 _ rfl, cl 1 _ rfl, cl 2 _ rfl, cl 3 _ rfl⟩
end Go.Proofs.YteoonaanoenjiaaGreatDoor
namespace Go.Proofs.YteoonaanoenjiaaGreatDoor
open Go.RowKit
set_option linter.unusedVariables false
def bringsB (t : T4) (s : Sg) : Bool := sameD s.1 (apD t.1 t.2.1 t.2.2.1 t.2.2.2 s.2.2)
def explB (A : List Sg) (t : T4) : Bool := A.all (bringsB t)
theorem expl_yes {A : List Sg} {t : T4} (h : ∀ i, i < A.length → bringsB t (sgA A i) = true) : explB A t = true := by
  unfold explB
  rw [← all_range_at, List.all_eq_true]
  exact fun i hi => h i (List.mem_range.1 hi)
theorem expl_no {A : List Sg} {t : T4} {i : Nat} (hi : i < A.length) (h : bringsB t (sgA A i) = false) : explB A t = false := by
  unfold explB
  rw [← all_range_at, List.all_eq_false]
  exact ⟨i, List.mem_range.2 hi, by rw [h]; simp⟩
def firstT (A : List Sg) (T : List T4) : T4 × Int := match T.find? (explB A) with | some t => (t, 0) | none => ((0, 0, 0, 0), 6)
theorem tA_get {T : List T4} {k : Nat} (hk : k < T.length) : T[k]? = some (tA T k) := by unfold tA; rw [List.getD_eq_getElem?_getD, List.getElem?_eq_getElem hk]; rfl
theorem first_at {A : List Sg} {T : List T4} {k : Nat} (hk : k < T.length) (h : ∀ j, j < k → explB A (tA T j) = false) (h1 : explB A (tA T k) = true) : firstT A T = (tA T k, 0) := by
  unfold firstT
  have : T.find? (explB A) = some (tA T k) := by
    rw [List.find?_eq_some_iff_getElem]
    refine ⟨h1, k, hk, ?_, fun j hj => ?_⟩
    · have := tA_get hk
      rw [List.getElem?_eq_getElem hk] at this
      exact Option.some.inj this
    · have e := tA_get (T := T) (k := j) (by omega)
      rw [List.getElem?_eq_getElem (by omega)] at e
      rw [Option.some.inj e, h j hj]
      rfl
  rw [this]
theorem first_none {A : List Sg} {T : List T4} (h : ∀ j, j < T.length → explB A (tA T j) = false) : firstT A T = ((0, 0, 0, 0), 6) := by
  unfold firstT
  have : T.find? (explB A) = none := by
    rw [List.find?_eq_none]
    intro x hx
    obtain ⟨j, hj, rfl⟩ := List.getElem_of_mem hx
    have e := tA_get (T := T) (k := j) hj
    rw [List.getElem?_eq_getElem hj] at e
    rw [Option.some.inj e, h j hj]
    simp
  rw [this]
def forV (L : List St) (S : List D3) (ids : List Int) : T4 × Int :=
  if 400 < L.length ∨ 400 < S.length ∨ 400 < ids.length then ((0, 0, 0, 0), 2)
  else if namedB L S ids = true then (if (sightsTo L S ids ids.length).length < 2 then ((0, 0, 0, 0), 10) else firstT (sightsTo L S ids ids.length) (turnsTo 625))
  else ((0, 0, 0, 0), 1)
theorem for_size {L : List St} {S : List D3} {ids : List Int} (h : 400 < L.length ∨ 400 < S.length ∨ 400 < ids.length) : forV L S ids = ((0, 0, 0, 0), 2) := by unfold forV; rw [if_pos h]
theorem for_form {L : List St} {S : List D3} {ids : List Int} (h : ¬ (400 < L.length ∨ 400 < S.length ∨ 400 < ids.length)) (h1 : namedB L S ids = false) : forV L S ids = ((0, 0, 0, 0), 1) := by unfold forV; rw [if_neg h, h1]; rfl
theorem for_few {L : List St} {S : List D3} {ids : List Int} (h : ¬ (400 < L.length ∨ 400 < S.length ∨ 400 < ids.length)) (h1 : namedB L S ids = true) (h2 : (sightsTo L S ids ids.length).length < 2) : forV L S ids = ((0, 0, 0, 0), 10) := by unfold forV; rw [if_neg h, if_pos h1, if_pos h2]
theorem for_first {L : List St} {S : List D3} {ids : List Int} (h : ¬ (400 < L.length ∨ 400 < S.length ∨ 400 < ids.length)) (h1 : namedB L S ids = true) (h2 : ¬ (sightsTo L S ids ids.length).length < 2) : forV L S ids = firstT (sightsTo L S ids ids.length) (turnsTo 625) := by unfold forV; rw [if_neg h, if_pos h1, if_neg h2]
theorem named_parts {L : List St} {S : List D3} {ids : List Int} (h : namedB L S ids = true) : skyB L = true ∧ spotsB S = true ∧ ids.length = S.length ∧ allFit (sightsTo L S ids ids.length) (sightsTo L S ids ids.length).length = true := by
  unfold namedB at h
  simp only [Bool.and_eq_true, decide_eq_true_eq] at h
  exact ⟨h.1.1.1, h.1.1.2, h.1.2, h.2⟩
theorem sight_mem {L : List St} {S : List D3} {ids : List Int} {n i : Nat} (hi : i < (sightsTo L S ids n).length) : ∃ j, j < n ∧ ids.getD j 0 ≠ 0 ∧ sgA (sightsTo L S ids n) i = sgOf L S ids j := by
  have hm : sgA (sightsTo L S ids n) i ∈ sightsTo L S ids n := by
    unfold sgA
    rw [List.getD_eq_getElem?_getD, List.getElem?_eq_getElem hi]
    exact List.getElem_mem hi
  generalize sgA (sightsTo L S ids n) i = s at hm ⊢
  unfold sightsTo at hm
  rw [List.mem_map] at hm
  obtain ⟨j, hj, rfl⟩ := hm
  rw [List.mem_filter] at hj
  exact ⟨j, List.mem_range.1 hj.1, of_decide_eq_true hj.2, rfl⟩
theorem sight_small {L : List St} {S : List D3} {ids : List Int} (h : namedB L S ids = true) {i : Nat} (hi : i < (sightsTo L S ids ids.length).length) : smallB (sgA (sightsTo L S ids ids.length) i).2.2.1 (sgA (sightsTo L S ids ids.length) i).2.2.2.1 (sgA (sightsTo L S ids ids.length) i).2.2.2.2 = true := by
  obtain ⟨h1, h2, h3, h4⟩ := named_parts h
  unfold allFit at h4
  have h5 := List.all_eq_true.1 h4 i (List.mem_range.2 hi)
  rw [Bool.and_eq_true] at h5
  obtain ⟨j, hj, h0, e⟩ := sight_mem hi
  rw [e] at h5 ⊢
  exact at_small h1 (by have h6 := h5.1; rw [Bool.not_eq_true'] at h6; exact h6)
theorem named_each {L : List St} {S : List D3} {ids : List Int} (h : namedB L S ids = true) {j : Nat} (hj : j < ids.length) (h0 : ids.getD j 0 ≠ 0) : smallB (atV L L.length (ids.getD j 0)).1 (atV L L.length (ids.getD j 0)).2.1 (atV L L.length (ids.getD j 0)).2.2 = true ∧ wideD (vA S j) = true := by
  obtain ⟨h1, h2, h3, h4⟩ := named_parts h
  rw [← named_eq] at h4
  unfold namedI at h4
  have h5 := List.all_eq_true.1 h4 j (List.mem_range.2 hj)
  rw [decide_eq_false h0, Bool.false_or, Bool.and_eq_true] at h5
  exact ⟨at_small h1 (by simpa using h5.1), okV_wide ((spots_ok h2).2 j (by omega))⟩
def turnedI (L : List St) (S : List D3) (ids : List Int) (t : T4) (n : Nat) : Bool := (List.range n).all fun j => decide (ids.getD j 0 = 0) || bringsB t (sgOf L S ids j)
theorem turned_eq (L : List St) (S : List D3) (ids : List Int) (t : T4) (n : Nat) : turnedI L S ids t n = explB (sightsTo L S ids n) t := (sights_all L S ids (bringsB t) n).symm
theorem turnedI_no {L : List St} {S : List D3} {ids : List Int} {t : T4} {n j : Nat} (hj : j < n) (h : (decide (ids.getD j 0 = 0) || bringsB t (sgOf L S ids j)) = false) : turnedI L S ids t n = false := by
  unfold turnedI
  rw [List.all_eq_false]
  exact ⟨j, List.mem_range.2 hj, by rw [h]; simp⟩
theorem turnedI_yes {L : List St} {S : List D3} {ids : List Int} {t : T4} {n : Nat} (h : ∀ j, j < n → (decide (ids.getD j 0 = 0) || bringsB t (sgOf L S ids j)) = true) : turnedI L S ids t n = true := by
  unfold turnedI
  rw [List.all_eq_true]
  exact fun j hj => h j (List.mem_range.1 hj)
theorem sights_count (L : List St) (S : List D3) (ids : List Int) (k : Nat) : (sightsTo L S ids (k + 1)).length = (sightsTo L S ids k).length + if ids.getD k 0 ≠ 0 then 1 else 0 := by
  rw [sights_snoc, List.length_append]
  split <;> rfl
theorem turns_right {m k : Nat} (hk : k < (turnsTo m).length) : rightT (tA (turnsTo m) k).1 (tA (turnsTo m) k).2.1 (tA (turnsTo m) k).2.2.1 (tA (turnsTo m) k).2.2.2 = true := by
  have hm : tA (turnsTo m) k ∈ turnsTo m := by unfold tA; rw [List.getD_eq_getElem?_getD, List.getElem?_eq_getElem hk]; exact List.getElem_mem hk
  generalize tA (turnsTo m) k = t at hm ⊢
  unfold turnsTo at hm
  exact (List.mem_filter.1 hm).2
set_option maxRecDepth 1000000 in
theorem turns_some : 0 < (turnsTo 625).length := by
  have h : (tOf 624).1 = 2 := by decide +kernel
  have hg : goodT (tOf 563) = true := by decide +kernel
  have hm : tOf 563 ∈ turnsTo 625 := by
    unfold turnsTo
    rw [List.mem_filter]
    exact ⟨List.mem_map.2 ⟨563, List.mem_range.2 (by omega), rfl⟩, hg⟩
  exact List.length_pos_of_mem hm
end Go.Proofs.YteoonaanoenjiaaGreatDoor
