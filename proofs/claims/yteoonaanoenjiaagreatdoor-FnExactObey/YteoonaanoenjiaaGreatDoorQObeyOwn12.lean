/- Several texts in one: L7A, NaB, NaC, NaD, NaE, IdW, L7B, PairA, Place, PairB, PairC, PairD, PairE, PairF, PairM. -/
import Derived.Deep.RegionHeld
import Derived.WalkMore
import Derived.Test.YteoonaanoenjiaaGreatDoorRows
import Derived.Deep.Slices
import Derived.Deep.Strs
import Derived.LaidHandle
import Derived.LaidMore
import Derived.ProofKit
import Derived.WideShapes
import Derived.Deep.DeepCutAuto
import Derived.OwnWalk
import Derived.Laws.OwnMore
import Derived.Test.YteoonaanoenjiaaGreatDoorQObeyOwn10
import Derived.Test.YteoonaanoenjiaaGreatDoorQObeyOwn11
import Derived.Test.YteoonaanoenjiaaGreatDoorQObeyOwn8
import Derived.Test.YteoonaanoenjiaaGreatDoorQObeyOwn9
import Derived.Test.YteoonaanoenjiaaGreatDoorQObeyOwn6
import Derived.Test.YteoonaanoenjiaaGreatDoorQObeyOwn3
namespace Go.Proofs.YteoonaanoenjiaaGreatDoor
open Go.RowKit Go.Sort
set_option linter.unusedVariables false
theorem rowOfDirs {w : World} {b n : Nat} {L : List D3} (h : OwnD w b n L n) : ∃ f, RowV w 111 b (n * 3) f := by
  obtain ⟨cur, hc, hn, hs⟩ := h
  refine ⟨fun j => cur.getD j .nilIface, cur, hc, fun j hj => ?_⟩
  simp [Array.getD, show j < cur.size by omega]
set_option maxHeartbeats 2000000 in
set_option maxRecDepth 100000 in
theorem markVecS_from (n c g : Nat) (K : Int) (f : Nat → Value) (w : World) (hn : n ≤ 1048576) (hK0 : 0 ≤ K) (hK1 : K ≤ 100000000) (hR : RowV w 111 g (n * 3) f) :
    Calls Tryz.prog 42 #[.slice (some ⟨g, 0, none⟩) n c, .int .i64 K] w fun e w' => e = .returned (.int .i64 (K + (n : Int) * 3)) ∧ w.grownBy w' (some g) := by
  have HR := yz hR
  clear hR
  go_enter Tryz.func42, Tryz.ntmps42
  go_wp2_with fail
  go_loopw [1, 5] (fun k i wr => ∃ q : Nat, q ≤ n ∧ i = .int .i64 q ∧ k = .int .i64 (K + (q : Int) * 3) ∧ Hid (∃ f, RowV wr 111 g (n * 3) f) ∧ Hid (w.grownBy wr (some g))) (fun _ i _ => n - (intOf i).toNat)
  case atStart => exact ⟨0, by omega, rfl, by simp, yz ⟨_, yx HR⟩, yz (gRefl w _)⟩
  case round =>
    obtain ⟨q, hq, rfl, rfl, HO, HG⟩ := hrel
    by_cases hqn : q < n
    · have hqn2 : (q : Int) < (n : Int) := by omega
      obtain ⟨f1, hr⟩ := yx HO
      have e0 := hr.cell (j := q * 3) (by omega)
      have f0 := hr.free (q * 3)
      have e1 := hr.cell (j := q * 3 + 1) (by omega)
      have f1' := hr.free (q * 3 + 1)
      have e2 := hr.cell (j := q * 3 + 2) (by omega)
      have f2 := hr.free (q * 3 + 2)
      have R1 := hr.set (q * 3) (.int .i64 (K + (q : Int) * 3))
      have R2 := R1.set (q * 3 + 1) (.int .i64 (K + (q : Int) * 3 + 1))
      have R3 := R2.set (q * 3 + 2) (.int .i64 (K + (q : Int) * 3 + 1 + 1))
      have HO2 : Hid (∃ f, RowV _ 111 g (n * 3) f) := yz ⟨_, R3⟩
      have HG2 := yz (gSet (gSet (gSet (yx HG) (q * 3) (.int .i64 (K + (q : Int) * 3))) (q * 3 + 1) (.int .i64 (K + (q : Int) * 3 + 1))) (q * 3 + 2) (.int .i64 (K + (q : Int) * 3 + 1 + 1)))
      clear R1 R2 R3 hr HO HG
      go_wp2_with fail
      go_roundw
      case rel => exact ⟨q + 1, by omega, by go_num, by go_num, HO2, HG2⟩
      case measure => simp [intOf]; omega
    · have hqn' : q = n := by omega
      subst hqn'
      go_wp2_with fail
      go_ret
      exact ⟨rfl, yx HG⟩
def Nums (w : World) (a : Option Addr) (ids : List Int) (n : Nat) : Prop := n = 0 ∨ ∃ b o, a = some ⟨b, o, none⟩ ∧ b < w.heap.size ∧ ∀ i, i < n → w.cell? ⟨b, o + i, none⟩ = some (.int .i64 (ids.getD i 0))
theorem Nums.kept {w w' : World} {a : Option Addr} {L : List Int} {n : Nat} (h : Nums w a L n) (hB : Below w.heap.size w w') : Nums w' a L n := by
  rcases h with h | ⟨b, o, ha, hb, hc⟩
  · exact .inl h
  · exact .inr ⟨b, o, ha, Nat.lt_of_lt_of_le hb hB.size, fun i hi => by rw [hB.cell (p := ⟨b, o + i, none⟩) hb]; exact hc i hi⟩
def numV (ids : List Int) (j : Nat) : Value := .int .i64 (ids.getD j 0)
theorem nums_of {w : World} {g n : Nat} {ids : List Int} (h : RowV w 2 g (n * 1) (numV ids)) : Nums w (some ⟨g, 0, none⟩) ids n :=
  .inr ⟨g, 0, rfl, h.lt, fun i hi => by rw [Nat.zero_add]; exact h.cell (by omega)⟩
end Go.Proofs.YteoonaanoenjiaaGreatDoor
namespace Go.Proofs.YteoonaanoenjiaaGreatDoor
open Go.RowKit Go.Sort
set_option linter.unusedVariables false
set_option linter.unusedSimpArgs false
theorem step_append7 {P : Program} {ops : Array Oper} {o : Oper} {a : Act} {w : World} {K : Act → World → Prop} {Q : Exit → Act → World → Prop} {E : Prop} (hgd : o.guard = none) (s x : Operand) (t : TypeId)
    (ho : o.op = .call { callee := .builtin .append, args := #[s, x], argTypes := #[t, t] })
    (base : Nat) (e : TypeId) (i : TypeInfo) (z : Value) (size bytes : Nat) (ht : P.underlying t = some (.slice e)) (hi : P.info? e = some i) (hz : i.zero = some z)
    (hsize : i.size = size) (hby : i.bytes = bytes) (hzs : z.cells.size = size) (hsz : 0 < size)
    (v : Value) (n : Nat) (xs : List Value) (hs : a.eval s = v) (hown : w.ownsRow base e size v n xs)
    (ad : Addr) (m c : Nat) (news : List Value) (hx : a.eval x = .slice (some ad) m c) (hl : news.length = m * size) (hnews : ∀ j u, news[j]? = some u → w.cell? (ad.add j) = some u) (h1 : ∀ u ∈ news, u.oneCell' = true)
    (h63 : n + m ≤ maxLen) (hbytes : (n + m) * bytes ≤ 140737488355328) (hbase : base ≤ w.heap.size)
    (h : ∀ v' w', w'.ownsRow base e size v' (n + m) (xs ++ news) → w.grownBy w' v.ownBlock → K (a.put o.dst v') w') : if Region.wanted o (yielded ops a.tmps) = true then Oper.wp P o a w K Q else E := by
  have hw : Region.wanted o (yielded ops a.tmps) = true := by simp [Region.wanted, hgd]
  rw [if_pos hw]
  exact wp_append_own w s x t ho base e i z size bytes ht hi hz hsize hby hzs hsz v n xs hs hown ad m c news hx hl hnews h1 h63 hbytes hbase fun v' w' h2 h3 _ => h v' w' h2 h3
theorem cellKept {w w' : World} {a : Addr} {v : Value} (h : w.cell? a = some v) (hB : Below w.heap.size w w') : w'.cell? a = some v := (hB.cell (World.block_lt_of_cell? w a h)).trans h
theorem cellGrown {w w' : World} {a : Addr} {v : Value} {row : Option Nat} (h : w.cell? a = some v) (hg : w.grownBy w' row) (hne : some a.block ≠ row) : w'.cell? a = some v := (World.cell?_of_block (hg.block a.block (World.block_lt_of_cell? w a h) hne)).trans h
theorem info_sight : (Tryz.prog.info? 299).map (fun i => (i.zero, i.size, i.bytes)) = some (some (.agg #[.int .i64 0, .int .i64 0, .int .i64 0, .int .i64 0, .int .i64 0, .int .i64 0, .int .i64 0]), 7, 56) := by kernel_rfl
def flatSg (S : List Sg) : List Value := S.flatMap sgL
theorem flatSg_app (A B : List Sg) : flatSg (A ++ B) = flatSg A ++ flatSg B := by unfold flatSg; rw [List.flatMap_append]
theorem flatSg_cell {S : List Sg} {v : Value} (h : v ∈ flatSg S) : v.oneCell' = true := by
  unfold flatSg at h
  rw [List.mem_flatMap] at h
  obtain ⟨p, _, hp⟩ := h
  simp [sgL] at hp
  rcases hp with rfl | rfl | rfl | rfl | rfl | rfl | rfl <;> rfl
theorem flatSg_at : ∀ (S : List Sg) (k : Nat) (b : Sg), S[k]? = some b → ∀ j u, (sgL b)[j]? = some u → (flatSg S)[k * 7 + j]? = some u := by
  intro S
  induction S with
  | nil => intro k b h; simp at h
  | cons x S ih =>
    intro k b h j u hu
    have e : flatSg (x :: S) = sgL x ++ flatSg S := by unfold flatSg; simp
    have hj : j < 7 := (List.getElem?_eq_some_iff.1 hu).1
    rw [e]
    cases k with
    | zero =>
      simp at h
      subst h
      rw [List.getElem?_append_left (by show _ < 7; omega)]
      simpa using hu
    | succ k =>
      rw [List.getElem?_append_right (by show 7 ≤ _; omega)]
      rw [show (k + 1) * 7 + j - (sgL x).length = k * 7 + j by show _ - 7 = _; omega]
      exact ih k b (by simpa using h) j u hu
theorem sights_own {w : World} {B : Nat} {a : Option Addr} {c : Nat} {A : List Sg} (h : w.ownsRow B 299 7 (.slice a A.length c) A.length (flatSg A)) : Sights w a A A.length := by
  rcases h.2 with ⟨h1, h0⟩ | ⟨g, cap, cur, hv, hb, hg, hnc, hcm, hcs, htake⟩
  · exact .inl h0
  · injection hv with e1 e2 e3
    refine .inr ⟨g, 0, e1, (Array.getElem?_eq_some_iff.1 hg).1, fun k hk => ?_⟩
    have hk' : A[k]? = some (sgA A k) := by unfold sgA; rw [List.getD_eq_getElem?_getD, List.getElem?_eq_getElem hk]; rfl
    have cl : ∀ j u, (sgL (sgA A k))[j]? = some u → w.cell? ⟨g, 0 + k * 7 + j, none⟩ = some u := by
      intro j u hu
      have hj : j < 7 := (List.getElem?_eq_some_iff.1 hu).1
      have e := flatSg_at A k _ hk' j u hu
      rw [cell_of_row w g _ cur _ _ hg]
      rw [← htake, List.getElem?_take, if_pos (by omega)] at e
      rw [Nat.zero_add]
      simpa using e
    exact ⟨cl 0 _ rfl, cl 1 _ rfl, cl 2 _ rfl, cl 3 _ rfl, cl 4 _ rfl, cl 5 _ rfl, cl 6 _ rfl⟩
theorem own_cap {w : World} {B : Nat} {a : Option Addr} {c n m : Nat} {t : TypeId} {xs : List Value} (h : w.ownsRow B t m (.slice a n c) n xs) (hm : 0 < m) : n ≤ c := by
  rcases h.2 with ⟨h1, h0⟩ | ⟨g, cap, cur, hv, hb, hg, hnc, hcm, hcs, htake⟩
  · injection h1 with _ e2 e3
    omega
  · injection hv with e1 e2 e3
    omega
set_option maxHeartbeats 4000000 in
set_option maxRecDepth 100000 in
theorem sightsOf_any (L : List St) (S : List D3) (ids : List Int) (n : Nat) (ar br ir : Option Addr) (cr dr er : Nat) (p : Addr) (w : World) (hk : skyB L = true) (hn : L.length ≤ 1048576) (hcap : L.length ≤ cr) (hc9 : cr ≤ 9223372036854775807) (hm : S.length ≤ 6) (hl : n = S.length) (hS : Stars w ar L L.length) (hD : Dirs w br S S.length) (hI : Nums w ir ids n) (hE : ErrSky p w) :
    Calls Tryz.prog 204 #[.slice ar L.length cr, .slice br S.length dr, .slice ir n er] w fun e w' => (∃ v, e = .returned v ∧ w'.ownsRow w.heap.size 299 7 v (sightsTo L S ids n).length (flatSg (sightsTo L S ids n))) ∧ Below w.heap.size w w' := by
  obtain ⟨i0, hinf, hz0, hz1, hz2⟩ := info_parts info_sight
  have hm8 : 1000 ≤ maxLen := by decide +kernel
  have cA := yz (fun (W : World) (id : Int) hW hE => starOf_any L id ar cr p W hn hcap hc9 hW hE)
  have HAT : Hid (∀ id, starV L id = atV L L.length id) := yz (fun id => by unfold starV; rw [if_pos hk])
  have HS := yz hS
  have HD := yz hD
  have HE := yz hE
  have HN := yz (sights_snoc L S ids)
  have HLE := yz (sights_len L S ids)
  have HSO : Hid (∀ i, sgOf L S ids i = (vA S i, (ids.getD i 0, atV L L.length (ids.getD i 0)))) := yz (fun i => rfl)
  clear hS hD hE hk hcap hc9
  generalize hme : S.length = m at *
  subst hl
  generalize L.length = ln at *
  rcases hI with rfl | ⟨ib, io, rfl, hib, hic⟩
  · go_enter Tryz.func204, Tryz.ntmps204
    go_wp2_with fail
    refine wp_loop_rounds 1 ?_
    rw [rounds_succ]
    go_wp2_with fail
    go_ret
    exact ⟨⟨_, rfl, World.ownsRow_nil _ _ _ _⟩, Below.refl _ _⟩
  have HIC := yz hic
  clear hic
  go_enter Tryz.func204, Tryz.ntmps204
  go_wp2_with fail
  go_loopw [7, 13] (fun v kk wr => ∃ i : Nat, i ≤ n ∧ kk = .int .i64 i ∧ Hid (wr.ownsRow w.heap.size 299 7 v (sightsTo L S ids i).length (flatSg (sightsTo L S ids i))) ∧ Hid (Below w.heap.size w wr)) (fun _ kk _ => n - (intOf kk).toNat)
  case atStart => exact ⟨0, by omega, rfl, yz (World.ownsRow_nil _ _ _ _), yz (Below.refl _ _)⟩
  case round =>
    obtain ⟨i, hi, rfl, HO, HB⟩ := hrel
    by_cases hin : i < n
    · have hin2 : (i : Int) < (n : Int) := by omega
      have ci : wr.cell? ⟨ib, io + i, none⟩ = some (.int .i64 (ids.getD i 0)) := by rw [(yx HB).cell (p := ⟨ib, io + i, none⟩) hib]; exact yx HIC i hin
      have HSN := yz (yx HN i)
      have HSI := yz (yx HSO i)
      have hle := yx HLE i
      generalize ids.getD i 0 = id at *
      by_cases hid : id = 0
      · subst hid
        rw [if_neg (by simp), List.append_nil] at HSN
        have HO3 : Hid (wr.ownsRow w.heap.size 299 7 u7 (sightsTo L S ids (i + 1)).length (flatSg (sightsTo L S ids (i + 1)))) := yz (by rw [yx HSN]; exact yx HO)
        go_wp2_with fail
        go_roundw
        case rel => exact ⟨i + 1, by omega, by go_num, HO3, HB⟩
        case measure => simp [intOf] <;> omega
      · have hid' : (id == 0) = false := by simp [hid]
        rw [if_pos hid] at HSN
        rw [yx HSI] at HSN
        clear HSI
        have cA' := yz (fun (W : World) hW hE => yx cA W id hW hE)
        rw [yx HAT id] at cA'
        generalize atV L ln id = q at *
        obtain ⟨q1, q2, q3⟩ := q
        go_wp2_with fail
        refine (yx cA' _ ((yx HS).kept (yx HB)) ((yx HE).kept (yx HB))).mono ?_
        rintro e W1 ⟨rfl, hx⟩
        unfold vecV
        simp only
        have HO1 := oKept (yx HO) hx
        have HB1 := below_call (yx HB) hx
        clear hx HO HB cA'
        have HU : Hid (∀ z, u7.ownBlock = some z → w.heap.size ≤ z ∧ z < W1.heap.size) := yz (fun z e => HO1.lt z e)
        have Z := below1 W1 (.cells #[.int .i64 id, .int .i64 q1, .int .i64 q2, .int .i64 q3] 113)
        have HO2 := yz (oKept HO1 Z)
        have HB2 := yz (below_call HB1 Z)
        have N2 := yz (starAt_new W1 (id, q1, q2, q3) 113)
        clear Z HO1 HB1 ci
        go_wp2_with fail
        generalize W1.alloc (.cells #[.int .i64 id, .int .i64 q1, .int .i64 q2, .int .i64 q3] 113) = W2 at HO2 HB2 N2 ⊢
        generalize W1.heap.size = tb at *
        rcases yx HD with h | ⟨bb, bo, rfl, hbb, hbc⟩
        · omega
        have hst := (hbc i hin).kept hbb (yx HB2)
        clear hbc
        generalize vA S i = sv at *
        obtain ⟨v1, v2, v3⟩ := sv
        obtain ⟨c0, c1, c2⟩ := hst
        obtain ⟨d0, d1, d2, d3⟩ := yx N2
        simp only [Nat.zero_add] at d0 d1 d2 d3
        simp only at c0 c1 c2
        refine wp_region_held_drew (S := (fun w' => (w'.cell? ⟨bb, bo + i * 3, none⟩ = some (.int .i64 v1) ∧ w'.cell? ⟨bb, bo + i * 3 + 1, none⟩ = some (.int .i64 v2) ∧ w'.cell? ⟨bb, bo + i * 3 + 2, none⟩ = some (.int .i64 v3)) ∧ w'.cell? ⟨tb, 0, none⟩ = some (.int .i64 id) ∧ w'.cell? ⟨tb, 1, none⟩ = some (.int .i64 q1) ∧ w'.cell? ⟨tb, 2, none⟩ = some (.int .i64 q2) ∧ w'.cell? ⟨tb, 3, none⟩ = some (.int .i64 q3))) (by kernel_rfl) ?_ (fun hHeld => ?_)
        · exact ⟨⟨c0, c1, c2⟩, d0, d1, d2, d3⟩
        refine wpAnyH_take (i := 0) (v := ?_) rfl (by kernel_rfl) (by kernel_rfl) (by kernel_rfl) (fun _ _ _ h => h) (Or.inl ⟨by rfl, ?_⟩) (by assumption) ?_
        rotate_left
        · intro W0 hSw; (try dsimp only at hSw); go_simp <;> with_reducible rfl
        try simp only [Act.put, List.setIfInBounds_toArray, List.set_cons_zero, List.set_cons_succ]
        refine wpAnyH_take (i := 1) (v := ?_) rfl (by kernel_rfl) (by kernel_rfl) (by kernel_rfl) (fun _ _ _ h => h) (Or.inl ⟨by rfl, ?_⟩) (by assumption) ?_
        rotate_left
        · intro W0 hSw; (try dsimp only at hSw); go_simp <;> with_reducible rfl
        try simp only [Act.put, List.setIfInBounds_toArray, List.set_cons_zero, List.set_cons_succ]
        refine wpAnyH_take (i := 2) (v := ?_) rfl (by kernel_rfl) (by kernel_rfl) (by kernel_rfl) (fun _ _ _ h => h) (Or.inl ⟨by rfl, ?_⟩) (by assumption) ?_
        rotate_left
        · intro W0 hSw; (try dsimp only at hSw); go_simp <;> with_reducible rfl
        try simp only [Act.put, List.setIfInBounds_toArray, List.set_cons_zero, List.set_cons_succ]
        refine wpAnyH_take (i := 3) (v := ?_) rfl (by kernel_rfl) (by kernel_rfl) (by kernel_rfl) (fun _ _ _ h => h) (Or.inl ⟨by rfl, ?_⟩) (by assumption) ?_
        rotate_left
        · intro W0 hSw; (try dsimp only at hSw); go_simp <;> with_reducible rfl
        try simp only [Act.put, List.setIfInBounds_toArray, List.set_cons_zero, List.set_cons_succ]
        refine wpAnyH_take (i := 4) (v := ?_) rfl (by kernel_rfl) (by kernel_rfl) (by kernel_rfl) (fun _ _ _ h => h) (Or.inl ⟨by rfl, ?_⟩) (by assumption) ?_
        rotate_left
        · intro W0 hSw; (try dsimp only at hSw); go_simp <;> with_reducible rfl
        try simp only [Act.put, List.setIfInBounds_toArray, List.set_cons_zero, List.set_cons_succ]
        refine wpAnyH_take (i := 5) (v := ?_) rfl (by kernel_rfl) (by kernel_rfl) (by kernel_rfl) (fun _ _ _ h => h) (Or.inl ⟨by rfl, ?_⟩) (by assumption) ?_
        rotate_left
        · intro W0 hSw; (try dsimp only at hSw); go_simp <;> with_reducible rfl
        try simp only [Act.put, List.setIfInBounds_toArray, List.set_cons_zero, List.set_cons_succ]
        refine wpAnyH_take (i := 6) (v := ?_) rfl (by kernel_rfl) (by kernel_rfl) (by kernel_rfl) (fun _ _ _ h => h) (Or.inl ⟨by rfl, ?_⟩) (by assumption) ?_
        rotate_left
        · intro W0 hSw; (try dsimp only at hSw); go_simp <;> with_reducible rfl
        try simp only [Act.put, List.setIfInBounds_toArray, List.set_cons_zero, List.set_cons_succ]
        have HOd : W2.drew.ownsRow w.heap.size 299 7 u7 (sightsTo L S ids i).length (flatSg (sightsTo L S ids i)) := yx HO2
        have HBd := (yx HB2).drew
        have hbs : w.heap.size ≤ W2.drew.heap.size := HBd.size
        have hbs2 : w.heap.size ≤ W2.heap.size := hbs
        have c0d : W2.drew.cell? ⟨bb, bo + i * 3, none⟩ = some (.int .i64 v1) := c0
        have c1d : W2.drew.cell? ⟨bb, bo + i * 3 + 1, none⟩ = some (.int .i64 v2) := c1
        have c2d : W2.drew.cell? ⟨bb, bo + i * 3 + 2, none⟩ = some (.int .i64 v3) := c2
        have d0d : W2.drew.cell? ⟨tb, 0, none⟩ = some (.int .i64 id) := d0
        have d1d : W2.drew.cell? ⟨tb, 1, none⟩ = some (.int .i64 q1) := d1
        have d2d : W2.drew.cell? ⟨tb, 2, none⟩ = some (.int .i64 q2) := d2
        have d3d : W2.drew.cell? ⟨tb, 3, none⟩ = some (.int .i64 q3) := d3
        clear c0 c1 c2 d0 d1 d2 d3
        refine wpAnyH_ready (rs := [7]) (by kernel_rfl) (by simp) ?_
        refine AllReadyH.cons rfl (fun K hK => ?_) AllReadyH.nil
        go_simp
        have Z5 := below1 W2.drew (.cells #[.int .i64 v1, .int .i64 v2, .int .i64 v3, .int .i64 id, .int .i64 q1, .int .i64 q2, .int .i64 q3] 299)
        have hown := oKept HOd Z5
        have B5 := below_call HBd Z5
        have c0 := cellKept c0d Z5
        have c1 := cellKept c1d Z5
        have c2 := cellKept c2d Z5
        have d0 := cellKept d0d Z5
        have d1 := cellKept d1d Z5
        have d2 := cellKept d2d Z5
        have d3 := cellKept d3d Z5
        clear Z5 c0d c1d c2d d0d d1d d2d d3d HOd HBd
        refine hK.out _ _ ?_ (fun hHeld3 => ?_)
        · exact ⟨⟨c0, c1, c2⟩, d0, d1, d2, d3⟩
        clear hK K hHeld
        refine wpAnyH_ready (rs := [8]) (by kernel_rfl) (by simp) ?_
        refine AllReadyH.cons rfl (fun K hK => ?_) AllReadyH.nil
        refine step_append7 rfl _ _ 278 rfl w.heap.size 299 i0 (.agg #[.int .i64 0, .int .i64 0, .int .i64 0, .int .i64 0, .int .i64 0, .int .i64 0, .int .i64 0]) 7 56 Tryz.underlying278 hinf hz0 hz1 hz2 rfl (by decide) _ _ _ rfl hown ⟨W2.drew.heap.size, 0, none⟩ 1 1 (flatSg [((v1, v2, v3), (id, q1, q2, q3))]) rfl rfl ?d2 (fun u hu => flatSg_cell hu) ?d3 ?d4 ?d5 ?_
        case d2 => first | exact fun j u h => h | exact new_cells _ _ _
        case d3 => omega
        case d4 => omega
        case d5 => first | omega | (simp; omega)
        intro v7 V7 hown7 hgrow7
        have neb : ∀ z, z < w.heap.size ∨ tb ≤ z → some z ≠ u7.ownBlock := fun z hz e => by have := yx HU z e.symm; omega
        have HB8 : Hid (Below w.heap.size w V7) := yz (B5.trans ⟨hgrow7.os, hgrow7.tape, hgrow7.output, hgrow7.size, fun z hz => hgrow7.block z (by simp; omega) (neb z (.inl hz))⟩)
        have c0' := cellGrown c0 hgrow7 (neb _ (.inl hbb))
        have c1' := cellGrown c1 hgrow7 (neb _ (.inl hbb))
        have c2' := cellGrown c2 hgrow7 (neb _ (.inl hbb))
        have d0' := cellGrown d0 hgrow7 (neb _ (.inr (Nat.le_refl _)))
        have d1' := cellGrown d1 hgrow7 (neb _ (.inr (Nat.le_refl _)))
        have d2' := cellGrown d2 hgrow7 (neb _ (.inr (Nat.le_refl _)))
        have d3' := cellGrown d3 hgrow7 (neb _ (.inr (Nat.le_refl _)))
        have HO8 : Hid (V7.ownsRow w.heap.size 299 7 v7 (sightsTo L S ids (i + 1)).length (flatSg (sightsTo L S ids (i + 1)))) := yz (by rw [yx HSN, flatSg_app, List.length_append]; exact hown7)
        clear hown7 hgrow7 hown B5 c0 c1 c2 d0 d1 d2 d3 neb
        refine hK.out _ _ ?_ (fun hHeld4 => ?_)
        · exact ⟨⟨c0', c1', c2'⟩, d0', d1', d2', d3'⟩
        clear hK K hHeld3
        refine wpAnyH_ready (rs := [9]) (by kernel_rfl) (by simp) ?_
        refine AllReadyH.cons rfl (fun K hK => ?_) AllReadyH.nil
        go_simp
        refine hK.out _ _ ?_ (fun hHeld5 => ?_)
        · exact ⟨⟨c0', c1', c2'⟩, d0', d1', d2', d3'⟩
        clear hK K hHeld4
        refine wpAnyH_done (by kernel_rfl) ?_ _
        clear c0' c1' c2' d0' d1' d2' d3' hHeld5
        go_wp2_with fail
        go_roundw
        case rel => exact ⟨i + 1, by omega, by go_num, HO8, HB8⟩
        case measure => simp [intOf] <;> omega
    · have hin' : i = n := by omega
      subst hin'
      go_wp2_with fail
      go_ret
      exact ⟨⟨_, rfl, yx HO⟩, yx HB⟩
end Go.Proofs.YteoonaanoenjiaaGreatDoor
namespace Go.Proofs.YteoonaanoenjiaaGreatDoor
open Go.RowKit Go.Sort
set_option linter.unusedVariables false
theorem named_no1 {L : List St} {S : List D3} {ids : List Int} (h : skyB L = false) : namedB L S ids = false := by unfold namedB; rw [h]; rfl
theorem named_no2 {L : List St} {S : List D3} {ids : List Int} (h : spotsB S = false) : namedB L S ids = false := by unfold namedB; rw [h, Bool.and_false]; rfl
theorem named_no3 {L : List St} {S : List D3} {ids : List Int} (h : ids.length ≠ S.length) : namedB L S ids = false := by unfold namedB; rw [decide_eq_false h, Bool.and_false]; rfl
theorem named_yes {L : List St} {S : List D3} {ids : List Int} (h1 : skyB L = true) (h2 : spotsB S = true) (h3 : ids.length = S.length) : namedB L S ids = allFit (sightsTo L S ids ids.length) (sightsTo L S ids ids.length).length := by unfold namedB; rw [h1, h2, decide_eq_true h3]; rfl
theorem allFit_yes {A : List Sg} {n : Nat} (h : ∀ i, i < n → (!zeroD (sgA A i).2.2 && fitsB A (sgA A i) i) = true) : allFit A n = true := by
  unfold allFit
  rw [List.all_eq_true]
  exact fun i hi => h i (List.mem_range.1 hi)
theorem allFit_no {A : List Sg} {n i : Nat} (hi : i < n) (h : (!zeroD (sgA A i).2.2 && fitsB A (sgA A i) i) = false) : allFit A n = false := by
  unfold allFit
  rw [List.all_eq_false]
  exact ⟨i, List.mem_range.2 hi, by rw [h]; simp⟩
theorem own_capMax {w : World} {B : Nat} {a : Option Addr} {c n m : Nat} {t : TypeId} {xs : List Value} (h : w.ownsRow B t m (.slice a n c) n xs) : c ≤ maxLen := by
  rcases h.2 with ⟨h1, h0⟩ | ⟨g, cap, cur, hv, hb, hg, hnc, hcm, hcs, htake⟩
  · injection h1 with _ e2 e3
    omega
  · injection hv with e1 e2 e3
    omega
set_option maxHeartbeats 4000000 in
set_option maxRecDepth 100000 in
theorem implNamed_any (L : List St) (S : List D3) (ids : List Int) (ar br ir : Option Addr) (cr dr er : Nat) (p : Addr) (w : World) (hn : L.length ≤ 1048576) (hcap : L.length ≤ cr) (hc9 : cr ≤ 9223372036854775807) (hn2 : S.length ≤ 1048576) (hcap2 : S.length ≤ dr) (hd9 : dr ≤ 9223372036854775807) (hn3 : ids.length ≤ 1048576) (hS : Stars w ar L L.length) (hD : Dirs w br S S.length) (hI : Nums w ir ids ids.length) (hE : ErrSky p w) :
    Calls Tryz.prog 203 #[.slice ar L.length cr, .slice br S.length dr, .slice ir ids.length er] w fun e w' => e = .returned (.bool (namedB L S ids)) ∧ Below w.heap.size w w' := by
  have cK := yz (fun (W : World) hW hE => skyRight_any L ar cr p W hn hcap hc9 hW hE)
  have cP := yz (fun (W : World) hW => spotsRight_any S br dr W hn2 hcap2 hd9 hW)
  have cO : Hid (skyB L = true → S.length ≤ 6 → ids.length = S.length → ∀ W : World, Stars W ar L L.length → Dirs W br S S.length → Nums W ir ids ids.length → ErrSky p W → Calls Tryz.prog 204 #[.slice ar L.length cr, .slice br S.length dr, .slice ir ids.length er] W fun e w' => (∃ v, e = .returned v ∧ w'.ownsRow W.heap.size 299 7 v (sightsTo L S ids ids.length).length (flatSg (sightsTo L S ids ids.length))) ∧ Below W.heap.size W w') := yz (fun hk hm hl W h1 h2 h3 h4 => sightsOf_any L S ids ids.length ar br ir cr dr er p W hk hn hcap hc9 hm hl h1 h2 h3 h4)
  have H1 : Hid (skyB L = false → namedB L S ids = false) := yz named_no1
  have H2 : Hid (spotsB S = false → namedB L S ids = false) := yz named_no2
  have H3 : Hid (ids.length ≠ S.length → namedB L S ids = false) := yz named_no3
  have H4 : Hid (skyB L = true → spotsB S = true → ids.length = S.length → namedB L S ids = allFit (sightsTo L S ids ids.length) (sightsTo L S ids ids.length).length) := yz named_yes
  have H6 : Hid (spotsB S = true → S.length ≤ 6) := yz (fun h => (spots_ok h).1)
  have hAL := sights_len L S ids ids.length
  have HS := yz hS
  have HD := yz hD
  have HI := yz hI
  have HE := yz hE
  clear hS hD hI hE
  generalize namedB L S ids = R at *
  generalize sightsTo L S ids ids.length = A at *
  generalize S.length = m at *
  generalize ids.length = k at *
  generalize L.length = n at *
  go_enter Tryz.func203, Tryz.ntmps203
  go_wp2_with fail
  refine (yx cK _ (yx HS) (yx HE)).mono ?_
  rintro e W1 ⟨rfl, hx⟩
  have B1 := yz hx
  clear hx
  cases hk : skyB L
  · obtain rfl := yx H1 hk
    go_wp2_with fail
    go_ret
    exact ⟨rfl, yx B1⟩
  go_wp2_with fail
  refine (yx cP _ ((yx HD).kept (yx B1))).mono ?_
  rintro e W2 ⟨rfl, hx⟩
  have B2 := yz (below_call (yx B1) hx)
  clear hx B1
  cases hp : spotsB S
  · obtain rfl := yx H2 hp
    go_wp2_with fail
    go_ret
    exact ⟨rfl, yx B2⟩
  by_cases hl0 : k ≠ m
  · obtain rfl := yx H3 hl0
    have hl' : ¬ (k : Int) = (m : Int) := by omega
    have hl2 : ((k : Int) == (m : Int)) = false := by simp; omega
    go_wp2_with fail
    go_ret
    exact ⟨rfl, yx B2⟩
  have hl : k = m := Decidable.not_not.1 hl0
  clear hl0
  have HR := yz (yx H4 hk hp hl)
  have hm6 := yx H6 hp
  have cO' := yz (yx cO hk hm6 hl)
  subst hl
  clear hk hp H1 H2 H3 H4 H6 cK cP cO
  go_wp2_with fail
  refine (yx cO' _ ((yx HS).kept (yx B2)) ((yx HD).kept (yx B2)) ((yx HI).kept (yx B2)) ((yx HE).kept (yx B2))).mono ?_
  rintro e W3 ⟨⟨v3, rfl, ho⟩, hx⟩
  obtain ⟨a3, c3, rfl⟩ := oSlice ho
  have hcap3 := own_cap ho (by omega)
  have HSG := yz (sights_own ho)
  have B3 := yz (below_call (yx B2) hx)
  have hc39 : c3 ≤ 9223372036854775807 := Nat.le_trans (own_capMax ho) (by decide +kernel)
  clear ho hx B2 cO'
  generalize hal : A.length = al at *
  clear hal
  have cF : Hid (∀ (s : Sg) (i : Nat) (a : Option Addr) (W : World), i ≤ al → Sights W a A i → Calls Tryz.prog 218 #[sgV s, .slice a i c3] W fun e w' => e = .returned (.bool (fitsB A s i)) ∧ Below W.heap.size W w') := yz (fun s i a W hi hs => fitsBehind_any A i s a c3 W (by omega) (by omega) hc39 hs)
  go_wp2_with fail
  rcases yx HSG with h0 | ⟨sb, so, rfl, hsb, hsc⟩
  · subst h0
    have HY : Hid (R = true) := yz (by rw [yx HR]; rfl)
    refine wp_loop_rounds 1 ?_
    rw [rounds_succ]
    go_wp2_with fail
    go_ret
    exact ⟨by rw [yx HY]; rfl, yx B3⟩
  have HSC := yz hsc
  clear hsc
  have hsb3 : sb < W3.heap.size := hsb
  go_loopw [31] (fun kk wr => ∃ i : Nat, i ≤ al ∧ kk = .int .i64 i ∧ Hid (∀ j, j < i → (!zeroD (sgA A j).2.2 && fitsB A (sgA A j) j) = true) ∧ Hid (Below W3.heap.size W3 wr)) (fun kk _ => al - (intOf kk).toNat)
  case atStart => exact ⟨0, by omega, rfl, yz (fun j hj => absurd hj (Nat.not_lt_zero _)), yz (Below.refl _ _)⟩
  case round =>
    obtain ⟨i, hi, rfl, HF, HB⟩ := hrel
    by_cases hin : i < al
    · have hin2 : (i : Int) < (al : Int) := by omega
      obtain ⟨t, ht⟩ : ∃ t, sgA A i = t := ⟨_, rfl⟩
      have hst := ((yx HSC) i hin).kept (yx HB)
      rw [ht] at hst
      have HT := yz ht
      clear ht
      have HSi : Hid (Sights wr (some ⟨sb, so, none⟩) A i) := yz ((((yx HSG).less (Nat.le_of_lt hin))).kept (yx HB))
      have cFi := yz (fun W h => yx cF t i (some ⟨sb, so, none⟩) W (Nat.le_of_lt hin) h)
      have HOK : Hid ((!zeroD (sgA A i).2.2 && fitsB A (sgA A i) i) = (!zeroD t.2.2 && fitsB A t i)) := yz (by rw [yx HT])
      have Z := below1 wr (.cells #[.int .i64 t.1.1, .int .i64 t.1.2.1, .int .i64 t.1.2.2, .int .i64 t.2.1, .int .i64 t.2.2.1, .int .i64 t.2.2.2.1, .int .i64 t.2.2.2.2] 299)
      have T1 := sgAt_new wr t 299
      have HB1 := yz (below_call (yx HB) Z)
      have HS1 := yz ((yx HSi).kept Z)
      clear Z HB HSi
      generalize hfv : fitsB A t i = fv at *
      clear hfv
      obtain ⟨⟨b1, b2, b3⟩, b4, b5, b6, b7⟩ := t
      have cFj : Hid (∀ (W : World), Sights W (some ⟨sb, so, none⟩) A i → Calls Tryz.prog 218 #[.agg #[.int .i64 b1, .int .i64 b2, .int .i64 b3, .int .i64 b4, .int .i64 b5, .int .i64 b6, .int .i64 b7], .slice (some ⟨sb, so, none⟩) i c3] W fun e w' => e = .returned (.bool fv) ∧ Below W.heap.size W w') := cFi
      clear cFi
      have HOK' : Hid ((!zeroD (sgA A i).2.2 && fitsB A (sgA A i) i) = (!eqB b5 b6 b7 0 0 0 && fv)) := HOK
      clear HOK
      have he := fun W => eql_vec b5 b6 b7 0 0 0 W
      obtain ⟨c0, c1, c2, c3', c4, c5, c6⟩ := hst
      simp only at c0 c1 c2 c3' c4 c5 c6 T1 HB1 HS1
      go_wp2_with fail
      clear c0 c1 c2 c3' c4 c5 c6
      generalize wr.alloc (.cells #[.int .i64 b1, .int .i64 b2, .int .i64 b3, .int .i64 b4, .int .i64 b5, .int .i64 b6, .int .i64 b7] 299) = W4 at T1 HB1 HS1 ⊢
      generalize wr.heap.size = tb at *
      obtain ⟨x0, x1, x2, x3, x4, x5, x6⟩ := T1
      simp only [Nat.zero_add] at x0 x1 x2 x3 x4 x5 x6
      have r0 := cell_regrown x0
      have r1 := cell_regrown x1
      have r2 := cell_regrown x2
      have r3 := cell_regrown x3
      have r4 := cell_regrown x4
      have r5 := cell_regrown x5
      have r6 := cell_regrown x6
      clear x0 x1 x2 x3 x4 x5 x6
      have hic : (i : Int) ≤ (c3 : Int) := by omega
      cases hz : eqB b5 b6 b7 0 0 0
      · rw [hz] at he HOK'
        rw [Bool.not_false, Bool.true_and] at HOK'
        refine wp_region_quiet_below (by kernel_rfl) (by kernel_rfl) ?_
        repeat (go_big_quiet_step (first | (with_reducible exact Calls.regrown_of (yx cFj _ ((yx HS1).kept (below_regrown _ _ _))))))
        refine wpQuiet_nil ?_
        intro _ hw'
        obtain ⟨⟨dq, osq⟩, hw''⟩ := hw'
        subst hw''
        have hx := below_call (yx HB1) (below_regrown W4 dq osq)
        generalize grow (redrawn W4 dq) osq = W5 at hx ⊢
        have HB5 := yz hx
        clear hx r0 r1 r2 r3 r4 r5 r6 he cFj HS1 HB1
        cases fv
        · have HNO : Hid (R = false) := yz (by rw [yx HR]; exact allFit_no hin (yx HOK'))
          go_wp2_with fail
          go_ret
          exact ⟨by rw [yx HNO]; rfl, (yx B3).trans ((yx HB5).mono (yx B3).size)⟩
        · go_wp2_with fail
          go_roundw
          case rel => exact ⟨i + 1, by omega, by go_num, yz (fun l hl => by
            by_cases e : l = i
            · rw [e]; exact yx HOK'
            · exact yx HF l (by omega)), HB5⟩
          case measure => simp [intOf] <;> omega
      · rw [hz] at he HOK'
        have HNO : Hid (R = false) := yz (by rw [yx HR]; exact allFit_no hin (yx HOK'))
        refine wp_region_quiet_below (by kernel_rfl) (by kernel_rfl) ?_
        repeat (go_big_quiet_step (fail))
        refine wpQuiet_nil ?_
        intro _ hw'
        obtain ⟨⟨dq, osq⟩, hw''⟩ := hw'
        subst hw''
        have hx := below_call (yx HB1) (below_regrown W4 dq osq)
        generalize grow (redrawn W4 dq) osq = W5 at hx ⊢
        go_wp2_with fail
        go_ret
        exact ⟨by rw [yx HNO]; rfl, (yx B3).trans (hx.mono (yx B3).size)⟩
    · have hin' : i = al := by omega
      subst hin'
      have HY : Hid (R = true) := yz (by rw [yx HR]; exact allFit_yes (yx HF))
      go_wp2_with fail
      go_ret
      exact ⟨by rw [yx HY]; rfl, (yx B3).trans ((yx HB).mono (yx B3).size)⟩
theorem det_right {p q r : D3} (hp : rightB p.1 p.2.1 p.2.2 = true) (hq : rightB q.1 q.2.1 q.2.2 = true) (hr : rightB r.1 r.2.1 r.2.2 = true) :
    detD p q r = dotW (crW p.2.1 p.2.2 q.2.1 q.2.2) (crW p.2.2 p.1 q.2.2 q.1) (crW p.1 p.2.1 q.1 q.2.1) r.1 r.2.1 r.2.2 := by
  unfold detD detI
  rw [hp, hq, hr]
  rfl
theorem det_calls (p q r : D3) (hp : rightB p.1 p.2.1 p.2.2 = true) (hq : rightB q.1 q.2.1 q.2.2 = true) (hr : rightB r.1 r.2.1 r.2.2 = true) : ∃ (x1 x2 x3 d : Int),
    Hid (∀ W : World, Calls Tryz.prog 138 #[.agg #[.int .i64 p.1, .int .i64 p.2.1, .int .i64 p.2.2], .agg #[.int .i64 q.1, .int .i64 q.2.1, .int .i64 q.2.2]] W fun e w' => e = .returned (.agg #[.int .i64 x1, .int .i64 x2, .int .i64 x3]) ∧ Below W.heap.size W w')
    ∧ Hid (∀ W : World, Calls Tryz.prog 139 #[.agg #[.int .i64 x1, .int .i64 x2, .int .i64 x3], .agg #[.int .i64 r.1, .int .i64 r.2.1, .int .i64 r.2.2]] W fun e w' => e = .returned (.int .i64 d) ∧ Below W.heap.size W w')
    ∧ Hid (∀ W : World, Calls Tryz.prog 215 #[.int .i64 d] W fun e w' => e = .returned (.int .i64 (ordI (detD p q r) 0)) ∧ Below W.heap.size W w') := by
  refine ⟨_, _, _, _, yz (fun W => l02Cross_any _ _ _ _ _ _ W), yz (fun W => l02Dot_any _ _ _ _ _ _ W), yz (fun W => (l02Sign_any _ W).mono fun e w' h => ?_)⟩
  obtain ⟨he, hw⟩ := h
  refine ⟨?_, by rw [hw]; exact Below.refl _ _⟩
  rw [he, det_right hp hq hr]
  rfl
theorem cos_call (p q r s : D3) (hp : wideD p = true) (hq : wideD q = true) (hr : smallB r.1 r.2.1 r.2.2 = true) (hs : smallB s.1 s.2.1 s.2.2 = true) (W : World) :
    Calls Tryz.prog 214 #[.agg #[.int .i64 p.1, .int .i64 p.2.1, .int .i64 p.2.2], .agg #[.int .i64 q.1, .int .i64 q.2.1, .int .i64 q.2.2], .agg #[.int .i64 r.1, .int .i64 r.2.1, .int .i64 r.2.2], .agg #[.int .i64 s.1, .int .i64 s.2.1, .int .i64 s.2.2]] W fun e w' => e = .returned (.int .i64 (cosI p.1 p.2.1 p.2.2 q.1 q.2.1 q.2.2 r.1 r.2.1 r.2.2 s.1 s.2.1 s.2.2)) ∧ Below W.heap.size W w' := by
  rw [cos_eq2 hp hq hr hs]
  exact l02Cos_any _ _ _ _ _ _ _ _ _ _ _ _ W
def stepI (L : List St) (S : List D3) (ids : List Int) (s : Sg) (i : Nat) : Bool := decide (ids.getD i 0 = 0) || (decide (s.2.1 ≠ ids.getD i 0) && farB s (sgOf L S ids i) && (List.range i).all (fun j => decide (ids.getD j 0 = 0) || sideB s (sgOf L S ids j) (sgOf L S ids i)))
theorem fitsI_yes {L : List St} {S : List D3} {ids : List Int} {s : Sg} {n : Nat} (h : ∀ i, i < n → stepI L S ids s i = true) : fitsI L S ids s n = true := by
  unfold fitsI
  rw [List.all_eq_true]
  exact fun i hi => h i (List.mem_range.1 hi)
theorem fitsI_no {L : List St} {S : List D3} {ids : List Int} {s : Sg} {n i : Nat} (hi : i < n) (h : stepI L S ids s i = false) : fitsI L S ids s n = false := by
  unfold fitsI
  rw [List.all_eq_false]
  exact ⟨i, List.mem_range.2 hi, by unfold stepI at h; rw [h]; simp⟩
theorem stepI_zero {L : List St} {S : List D3} {ids : List Int} {s : Sg} {i : Nat} (h : ids.getD i 0 = 0) : stepI L S ids s i = true := by unfold stepI; rw [decide_eq_true h, Bool.true_or]
theorem stepI_same {L : List St} {S : List D3} {ids : List Int} {s : Sg} {i : Nat} (h : ids.getD i 0 ≠ 0) (h1 : s.2.1 = ids.getD i 0) : stepI L S ids s i = false := by
  unfold stepI
  rw [decide_eq_false h, Bool.false_or, show decide (s.2.1 ≠ ids.getD i 0) = false from decide_eq_false (fun g => g h1)]
  rfl
theorem stepI_far {L : List St} {S : List D3} {ids : List Int} {s : Sg} {i : Nat} (h : ids.getD i 0 ≠ 0) (h1 : farB s (sgOf L S ids i) = false) : stepI L S ids s i = false := by
  unfold stepI
  rw [decide_eq_false h, Bool.false_or, h1, Bool.and_false]
  rfl
theorem stepI_side {L : List St} {S : List D3} {ids : List Int} {s : Sg} {i j : Nat} (h : ids.getD i 0 ≠ 0) (hj : j < i) (h0 : ids.getD j 0 ≠ 0) (h1 : sideB s (sgOf L S ids j) (sgOf L S ids i) = false) : stepI L S ids s i = false := by
  unfold stepI
  have : ((List.range i).all fun j => decide (ids.getD j 0 = 0) || sideB s (sgOf L S ids j) (sgOf L S ids i)) = false := by
    rw [List.all_eq_false]
    exact ⟨j, List.mem_range.2 hj, by rw [decide_eq_false h0, h1]; simp⟩
  rw [decide_eq_false h, Bool.false_or, this, Bool.and_false]
theorem stepI_yes {L : List St} {S : List D3} {ids : List Int} {s : Sg} {i : Nat} (h1 : s.2.1 ≠ ids.getD i 0) (h2 : farB s (sgOf L S ids i) = true) (h3 : ∀ j, j < i → (decide (ids.getD j 0 = 0) || sideB s (sgOf L S ids j) (sgOf L S ids i)) = true) : stepI L S ids s i = true := by
  unfold stepI
  rw [decide_eq_true h1, h2, show ((List.range i).all fun j => decide (ids.getD j 0 = 0) || sideB s (sgOf L S ids j) (sgOf L S ids i)) = true from List.all_eq_true.2 (fun j hj => h3 j (List.mem_range.1 hj))]
  simp
def sidesTo (L : List St) (S : List D3) (ids : List Int) (s : Sg) (i j : Nat) : Prop := ∀ l, l < j → (decide (ids.getD l 0 = 0) || sideB s (sgOf L S ids l) (sgOf L S ids i)) = true
theorem sides_step {L : List St} {S : List D3} {ids : List Int} {s : Sg} {i j : Nat} (h : sidesTo L S ids s i j) (h1 : (decide (ids.getD j 0 = 0) || sideB s (sgOf L S ids j) (sgOf L S ids i)) = true) : sidesTo L S ids s i (j + 1) := fun l hl => by
  by_cases e : l = j
  · rw [e]; exact h1
  · exact h l (by omega)
theorem sides_none (L : List St) (S : List D3) (ids : List Int) (s : Sg) (i : Nat) : sidesTo L S ids s i 0 := fun j hj => absurd hj (Nat.not_lt_zero _)
set_option maxHeartbeats 4000000 in
set_option maxRecDepth 100000 in
theorem l06Fits_any (L : List St) (S : List D3) (ids : List Int) (k : Nat) (id : Int) (ar br ir : Option Addr) (cr dr er : Nat) (w : World) (hk6 : k ≤ 6) (hn : L.length ≤ 12) (hS : Stars w ar L L.length) (hD : Dirs w br S (k + 1)) (hI : Nums w ir ids k)
    (hwd : ∀ i, i ≤ k → wideD (vA S i) = true) (hid : smallB (atV L L.length id).1 (atV L L.length id).2.1 (atV L L.length id).2.2 = true) (hids : ∀ i, i < k → ids.getD i 0 ≠ 0 → smallB (atV L L.length (ids.getD i 0)).1 (atV L L.length (ids.getD i 0)).2.1 (atV L L.length (ids.getD i 0)).2.2 = true) :
    Calls Tryz.prog 198 #[.slice ar L.length cr, .slice br (k + 1) dr, .slice ir k er, .int .i64 id] w fun e w' => e = .returned (.bool (fitsI L S ids (vA S k, (id, atV L L.length id)) k)) ∧ Below w.heap.size w w' := by
  have cA := yz (fun (W : World) (q : Int) hW => l04At_any L L.length q ar cr W (by omega) hW)
  have HS := yz hS
  have HD := yz hD
  have HWD := yz hwd
  have HDS := yz hids
  have HSO : Hid (∀ i, sgOf L S ids i = (vA S i, (ids.getD i 0, atV L L.length (ids.getD i 0)))) := yz (fun i => rfl)
  clear hS hD hwd hids
  obtain ⟨⟨p1, p2, p3⟩, hp⟩ : ∃ p, vA S k = p := ⟨_, rfl⟩
  obtain ⟨⟨q1, q2, q3⟩, hq⟩ : ∃ p, atV L L.length id = p := ⟨_, rfl⟩
  obtain ⟨sg, hsg⟩ : ∃ sg : Sg, sg = ((p1, p2, p3), (id, q1, q2, q3)) := ⟨_, rfl⟩
  have cV := yz (fun (W : World) hW => yx cA W id hW)
  rw [hq] at hid cV
  have HWK : Hid (wideD (p1, p2, p3) = true) := yz (by rw [← hp]; exact yx HWD k (Nat.le_refl _))
  have HIDS := yz hid
  rw [hp, hq, ← hsg]
  have HSG := yz hsg
  have HP := yz hp
  clear hp hq hsg hid
  generalize L.length = n at *
  go_enter Tryz.func198, Tryz.ntmps198
  go_wp2_with fail
  refine (yx cV _ (yx HS)).mono ?_
  rintro e W1 ⟨rfl, hx⟩
  unfold vecV
  simp only
  have Z := below1 W1 (.cells #[.int .i64 q1, .int .i64 q2, .int .i64 q3] 111)
  have HB1 := yz (below_call hx Z)
  have HV1 := yz (vecAt_new W1 q1 q2 q3 111)
  clear hx Z cV
  go_wp2_with fail
  generalize W1.alloc (.cells #[.int .i64 q1, .int .i64 q2, .int .i64 q3] 111) = W2 at HB1 HV1 ⊢
  generalize W1.heap.size = vb at *
  rcases hI with h0 | ⟨ib, io, rfl, hib, hic⟩
  · subst h0
    refine wp_loop_rounds 1 ?_
    rw [rounds_succ]
    go_wp2_with fail
    go_ret
    exact ⟨rfl, yx HB1⟩
  have HIC := yz hic
  clear hic
  rcases yx HD with h | ⟨bb, bo, rfl, hbb, hbc⟩
  · omega
  have HBC := yz hbc
  clear hbc
  go_loopw [11] (fun kk wr => ∃ i : Nat, i ≤ k ∧ kk = .int .i64 i ∧ Hid (∀ j, j < i → stepI L S ids sg j = true) ∧ Hid (VecAt wr vb q1 q2 q3) ∧ Hid (Below w.heap.size w wr)) (fun kk _ => k - (intOf kk).toNat)
  case atStart => exact ⟨0, by omega, rfl, yz (fun j hj => absurd hj (Nat.not_lt_zero _)), HV1, HB1⟩
  case round =>
    clear HV1 HB1
    obtain ⟨i, hi, rfl, HF, HV, HB⟩ := hrel
    by_cases hik : i < k
    · have hik2 : (i : Int) < (k : Int) := by omega
      have ci : wr.cell? ⟨ib, io + i, none⟩ = some (.int .i64 (ids.getD i 0)) := by rw [(yx HB).cell (p := ⟨ib, io + i, none⟩) hib]; exact yx HIC i hik
      have HSI := yz (yx HSO i)
      obtain ⟨x, hxi⟩ : ∃ x, ids.getD i 0 = x := ⟨_, rfl⟩
      rw [hxi] at ci HSI
      have HX := yz hxi
      clear hxi
      by_cases hx0 : x = 0
      · subst hx0
        have HOK := yz (stepI_zero (L := L) (S := S) (s := sg) (yx HX))
        go_wp2_with fail
        go_roundw
        case rel => exact ⟨i + 1, by omega, by go_num, yz (fun l hl => by
          by_cases e : l = i
          · rw [e]; exact yx HOK
          · exact yx HF l (by omega)), HV, HB⟩
        case measure => simp [intOf] <;> omega
      have hx0' : (x == 0) = false := by simp [hx0]
      have HXN : Hid (ids.getD i 0 ≠ 0) := yz (by rw [yx HX]; exact hx0)
      by_cases hxd : x = id
      · subst hxd
        have HNO := yz (fitsI_no hik (stepI_same (L := L) (S := S) (s := sg) (yx HXN) (by rw [yx HX, yx HSG])))
        go_wp2_with fail
        go_ret
        exact ⟨by rw [yx HNO]; rfl, yx HB⟩
      have hxd' : (x == id) = false := by simp [hxd]
      have HDX : Hid (sg.2.1 ≠ ids.getD i 0) := yz (by rw [yx HX, yx HSG]; exact fun e => hxd e.symm)
      have cW := yz (fun (W : World) hW => yx cA W x hW)
      have hsmx := yx HDS i hik (yx HXN)
      rw [yx HX] at hsmx
      obtain ⟨⟨w1, w2, w3⟩, hwv⟩ : ∃ p, atV L n x = p := ⟨_, rfl⟩
      rw [hwv] at cW hsmx HSI
      clear hwv
      obtain ⟨⟨s1, s2, s3⟩, hsv⟩ : ∃ p, vA S i = p := ⟨_, rfl⟩
      have HSVI := yz hsv
      rw [hsv] at HSI
      have hwi := yx HWD i (by omega)
      rw [hsv] at hwi
      clear hsv
      go_wp2_with fail
      refine (yx cW _ ((yx HS).kept (yx HB))).mono ?_
      rintro e W3 ⟨rfl, hx⟩
      unfold vecV
      simp only
      have Z := below1 W3 (.cells #[.int .i64 w1, .int .i64 w2, .int .i64 w3] 111)
      have HB3 := yz (below_call (below_call (yx HB) hx) Z)
      have HV3 := yz (((yx HV).kept (vltD (yx HV)) hx).kept (Nat.lt_of_lt_of_le (vltD (yx HV)) hx.size) Z)
      have HW3 := yz (vecAt_new W3 w1 w2 w3 111)
      clear hx Z cW ci HB HV
      go_wp2_with fail
      generalize W3.alloc (.cells #[.int .i64 w1, .int .i64 w2, .int .i64 w3] 111) = W4 at HB3 HV3 HW3 ⊢
      generalize W3.heap.size = wb at *
      have hsp := (yx HBC i (by omega)).kept hbb (yx HB3)
      have hpp := (yx HBC k (by omega)).kept hbb (yx HB3)
      rw [yx HSVI] at hsp
      rw [yx HP] at hpp
      have cC := yz (fun W => cos_call (s1, s2, s3) (p1, p2, p3) (w1, w2, w3) (q1, q2, q3) hwi (yx HWK) hsmx (yx HIDS) W)
      have HFA : Hid (farB sg (sgOf L S ids i) = decide (cosI s1 s2 s3 p1 p2 p3 w1 w2 w3 q1 q2 q3 = 0)) := yz (by rw [yx HSI, yx HSG]; rfl)
      generalize cosI s1 s2 s3 p1 p2 p3 w1 w2 w3 q1 q2 q3 = cv at *
      simp only at cC
      obtain ⟨c0, c1, c2⟩ := hsp
      obtain ⟨d0, d1, d2⟩ := hpp
      obtain ⟨e0, e1, e2⟩ := yx HV3
      obtain ⟨f0, f1, f2⟩ := yx HW3
      have rc0 := cell_regrown c0
      have rc1 := cell_regrown c1
      have rc2 := cell_regrown c2
      have rd0 := cell_regrown d0
      have rd1 := cell_regrown d1
      have rd2 := cell_regrown d2
      have re0 := cell_regrown e0
      have re1 := cell_regrown e1
      have re2 := cell_regrown e2
      have rf0 := cell_regrown f0
      have rf1 := cell_regrown f1
      have rf2 := cell_regrown f2
      clear c0 c1 c2 d0 d1 d2 e0 e1 e2 f0 f1 f2
      have hik3 : (i : Int) < (k : Int) + 1 := by omega
      have hkk3 : (k : Int) < (k : Int) + 1 := by omega
      refine wp_region_quiet_below (by kernel_rfl) (by kernel_rfl) ?_
      repeat (go_big_quiet_step (first | (with_reducible exact Calls.regrown_of (yx cC _))))
      refine wpQuiet_nil ?_
      intro _ hw'
      obtain ⟨⟨dq, osq⟩, hw''⟩ := hw'
      subst hw''
      have hx := below_regrown W4 dq osq
      have HB5 := yz (below_call (yx HB3) hx)
      have HV5 := yz ((yx HV3).kept (vltD (yx HV3)) hx)
      have HW5 := yz ((yx HW3).kept (vltD (yx HW3)) hx)
      generalize grow (redrawn W4 dq) osq = W5 at hx HB5 HV5 HW5 ⊢
      clear hx rc0 rc1 rc2 rd0 rd1 rd2 re0 re1 re2 rf0 rf1 rf2 cC HB3 HV3 HW3
      by_cases hcv : cv ≠ 0
      · have hcv' : (cv == 0) = false := by simp [hcv]
        have HNO := yz (fitsI_no hik (stepI_far (L := L) (S := S) (s := sg) (yx HXN) (by rw [yx HFA]; exact decide_eq_false hcv)))
        go_wp2_with fail
        go_ret
        exact ⟨by rw [yx HNO]; rfl, yx HB5⟩
      have hcv0 : cv = 0 := Decidable.not_not.1 hcv
      subst hcv0
      clear hcv
      have HFT : Hid (farB sg (sgOf L S ids i) = true) := yz (by rw [yx HFA]; rfl)
      clear HFA
      go_wp2_with fail
      go_loopw [13] (fun kk wr => ∃ j : Nat, j ≤ i ∧ kk = .int .i64 j ∧ Hid (sidesTo L S ids sg i j) ∧ Hid (VecAt wr vb q1 q2 q3) ∧ Hid (VecAt wr wb w1 w2 w3) ∧ Hid (Below w.heap.size w wr)) (fun kk _ => i - (intOf kk).toNat)
      case atStart => exact ⟨0, by omega, rfl, yz (sides_none _ _ _ _ _), HV5, HW5, HB5⟩
      case round =>
        clear HV5 HW5 HB5
        obtain ⟨j, hj, rfl, HL, HV, HW, HB⟩ := hrel
        by_cases hji : j < i
        · have hji2 : (j : Int) < (i : Int) := by omega
          have hjk2 : (j : Int) < (k : Int) := by omega
          have ci : wr.cell? ⟨ib, io + j, none⟩ = some (.int .i64 (ids.getD j 0)) := by rw [(yx HB).cell (p := ⟨ib, io + j, none⟩) hib]; exact yx HIC j (by omega)
          have HSJ := yz (yx HSO j)
          obtain ⟨y, hyi⟩ : ∃ x, ids.getD j 0 = x := ⟨_, rfl⟩
          rw [hyi] at ci HSJ
          have HY := yz hyi
          clear hyi
          by_cases hy0 : y = 0
          · subst hy0
            have HOK : Hid ((decide (ids.getD j 0 = 0) || sideB sg (sgOf L S ids j) (sgOf L S ids i)) = true) := yz (by rw [yx HY]; rfl)
            go_wp2_with fail
            go_roundw
            case rel => exact ⟨j + 1, by omega, by go_num, yz (sides_step (yx HL) (yx HOK)), HV, HW, HB⟩
            case measure => simp [intOf] <;> omega
          have hy0' : (y == 0) = false := by simp [hy0]
          have HYN : Hid (ids.getD j 0 ≠ 0) := yz (by rw [yx HY]; exact hy0)
          have cU := yz (fun (W : World) hW => yx cA W y hW)
          have hsmy := yx HDS j (by omega) (yx HYN)
          rw [yx HY] at hsmy
          obtain ⟨⟨u1, u2, u3⟩, huv⟩ : ∃ p, atV L n y = p := ⟨_, rfl⟩
          rw [huv] at cU hsmy HSJ
          clear huv
          obtain ⟨⟨t1, t2, t3⟩, htv⟩ : ∃ p, vA S j = p := ⟨_, rfl⟩
          have HTVJ := yz htv
          rw [htv] at HSJ
          have hwj := yx HWD j (by omega)
          rw [htv] at hwj
          clear htv
          go_wp2_with fail
          refine (yx cU _ ((yx HS).kept (yx HB))).mono ?_
          rintro e W6 ⟨rfl, hx⟩
          unfold vecV
          simp only
          have Z := below1 W6 (.cells #[.int .i64 u1, .int .i64 u2, .int .i64 u3] 111)
          have HB6 := yz (below_call (below_call (yx HB) hx) Z)
          have HV6 := yz (((yx HV).kept (vltD (yx HV)) hx).kept (Nat.lt_of_lt_of_le (vltD (yx HV)) hx.size) Z)
          have HW6 := yz (((yx HW).kept (vltD (yx HW)) hx).kept (Nat.lt_of_lt_of_le (vltD (yx HW)) hx.size) Z)
          have HU6 := yz (vecAt_new W6 u1 u2 u3 111)
          clear hx Z cU ci HB HV HW
          go_wp2_with fail
          generalize W6.alloc (.cells #[.int .i64 u1, .int .i64 u2, .int .i64 u3] 111) = W7 at HB6 HV6 HW6 HU6 ⊢
          generalize W6.heap.size = ub at *
          have hsp := (yx HBC i (by omega)).kept hbb (yx HB6)
          have htp := (yx HBC j (by omega)).kept hbb (yx HB6)
          have hpp := (yx HBC k (by omega)).kept hbb (yx HB6)
          rw [yx HSVI] at hsp
          rw [yx HTVJ] at htp
          rw [yx HP] at hpp
          obtain ⟨x1, x2, x3, dd, cX, cY, cZ⟩ := det_calls (t1, t2, t3) (s1, s2, s3) (p1, p2, p3) (wide_iff hwj).1 (wide_iff hwi).1 (wide_iff (yx HWK)).1
          obtain ⟨y1, y2, y3, d2, cX2, cY2, cZ2⟩ := det_calls (u1, u2, u3) (w1, w2, w3) (q1, q2, q3) (small_iff hsmy).1 (small_iff hsmx).1 (small_iff (yx HIDS)).1
          have HSB : Hid (sideB sg (sgOf L S ids j) (sgOf L S ids i) = decide (ordI (detD (t1, t2, t3) (s1, s2, s3) (p1, p2, p3)) 0 = ordI (detD (u1, u2, u3) (w1, w2, w3) (q1, q2, q3)) 0)) := yz (by rw [yx HSI, yx HSJ, yx HSG]; rfl)
          generalize ordI (detD (t1, t2, t3) (s1, s2, s3) (p1, p2, p3)) 0 = o1 at *
          generalize ordI (detD (u1, u2, u3) (w1, w2, w3) (q1, q2, q3)) 0 = o2 at *
          simp only at cX cY cZ cX2 cY2 cZ2
          obtain ⟨c0, c1, c2⟩ := hsp
          obtain ⟨d0, d1, d2'⟩ := hpp
          obtain ⟨e0, e1, e2⟩ := yx HV6
          obtain ⟨f0, f1, f2⟩ := yx HW6
          obtain ⟨g0, g1, g2⟩ := yx HU6
          obtain ⟨h0, h1, h2⟩ := htp
          have rc0 := cell_regrown c0
          have rc1 := cell_regrown c1
          have rc2 := cell_regrown c2
          have rd0 := cell_regrown d0
          have rd1 := cell_regrown d1
          have rd2 := cell_regrown d2'
          have re0 := cell_regrown e0
          have re1 := cell_regrown e1
          have re2 := cell_regrown e2
          have rf0 := cell_regrown f0
          have rf1 := cell_regrown f1
          have rf2 := cell_regrown f2
          have rg0 := cell_regrown g0
          have rg1 := cell_regrown g1
          have rg2 := cell_regrown g2
          have rh0 := cell_regrown h0
          have rh1 := cell_regrown h1
          have rh2 := cell_regrown h2
          clear c0 c1 c2 d0 d1 d2' e0 e1 e2 f0 f1 f2 g0 g1 g2 h0 h1 h2
          have hjk3 : (j : Int) < (k : Int) + 1 := by omega
          refine wp_region_quiet_below (by kernel_rfl) (by kernel_rfl) ?_
          repeat (go_big_quiet_step (first | (with_reducible exact Calls.regrown_of (yx cX _)) | (with_reducible exact Calls.regrown_of (yx cY _)) | (with_reducible exact Calls.regrown_of (yx cZ _)) | (with_reducible exact Calls.regrown_of (yx cX2 _)) | (with_reducible exact Calls.regrown_of (yx cY2 _)) | (with_reducible exact Calls.regrown_of (yx cZ2 _))))
          refine wpQuiet_nil ?_
          intro _ hw'
          obtain ⟨⟨dq, osq⟩, hw''⟩ := hw'
          subst hw''
          have hx := below_regrown W7 dq osq
          have HB8 := yz (below_call (yx HB6) hx)
          have HV8 := yz ((yx HV6).kept (vltD (yx HV6)) hx)
          have HW8 := yz ((yx HW6).kept (vltD (yx HW6)) hx)
          generalize grow (redrawn W7 dq) osq = W8 at hx HB8 HV8 HW8 ⊢
          clear hx rc0 rc1 rc2 rd0 rd1 rd2 re0 re1 re2 rf0 rf1 rf2 rg0 rg1 rg2 rh0 rh1 rh2 cX cY cZ cX2 cY2 cZ2 HB6 HV6 HW6 HU6
          by_cases ho : o1 = o2
          · subst ho
            have HOK : Hid ((decide (ids.getD j 0 = 0) || sideB sg (sgOf L S ids j) (sgOf L S ids i)) = true) := yz (by rw [yx HSB]; simp)
            go_wp2_with fail
            go_roundw
            case rel => first | exact ⟨j + 1, by omega, by go_num, yz (sides_step (yx HL) (yx HOK)), HV8, HW8, HB8⟩ | exact ⟨j + 1, by omega, by omega, yz (sides_step (yx HL) (yx HOK))⟩
            case measure => simp [intOf] <;> omega
          · have ho' : (o1 == o2) = false := by simp [ho]
            have HNO := yz (fitsI_no hik (stepI_side (L := L) (S := S) (s := sg) (yx HXN) hji (yx HYN) (by rw [yx HSB]; exact decide_eq_false ho)))
            go_wp2_with fail
            go_ret
            exact ⟨by rw [yx HNO]; rfl, yx HB8⟩
        · have hji' : j = i := by omega
          subst hji'
          have HOK := yz (stepI_yes (yx HDX) (yx HFT) (yx HL))
          go_wp2_with fail
          go_roundw
          case rel => exact ⟨j + 1, by omega, by go_num, yz (fun l hl => by
            by_cases e : l = j
            · rw [e]; exact yx HOK
            · exact yx HF l (by omega)), HV, HB⟩
          case measure => simp [intOf] <;> omega
    · have hik' : i = k := by omega
      subst hik'
      have HY := yz (fitsI_yes (yx HF))
      go_wp2_with fail
      go_ret
      exact ⟨by rw [yx HY]; rfl, yx HB⟩
theorem Nums.less {w : World} {a : Option Addr} {L : List Int} {n m : Nat} (h : Nums w a L n) (hm : m ≤ n) : Nums w a L m := by
  rcases h with h | ⟨b, o, ha, hb, hc⟩
  · exact .inl (by omega)
  · exact .inr ⟨b, o, ha, hb, fun i hi => hc i (by omega)⟩
end Go.Proofs.YteoonaanoenjiaaGreatDoor
namespace Go.Proofs.YteoonaanoenjiaaGreatDoor
open Go.RowKit Go.Deep Go.ChangeShapes
set_option linter.unusedVariables false
theorem vA_range (n : Nat) (f : Nat → D3) {i : Nat} (h : i < n) : vA ((List.range n).map f) i = f i := by
  unfold vA
  rw [List.getD_eq_getElem?_getD, List.getElem?_map, List.getElem?_range h]
  rfl
theorem cellsDV : Tryz.prog.cellsOf 115 = 3 := by kernel_rfl
theorem cellsDI : Tryz.prog.cellsOf 2 = 1 := by kernel_rfl
theorem spot_noneD {w : World} {x : Addr} {v : Value} (h : w.cell? x = some v) : x.spot = none := by
  cases hs : x.spot with
  | none => rfl
  | some k =>
    exfalso
    unfold World.cell? at h
    rw [hs] at h
    revert h
    split <;> simp
set_option maxRecDepth 100000 in
theorem open_dirs {H : Type} {enc : TypeId × Value → H} {w : World} {fuel : Nat} {a : Option Addr} {len cap : Nat} {x : DataW H × List MemPlace}
    (h : DataW.trod enc Tryz.prog w 0 (fun _ => true) true fuel 27 [.slice a len cap] = some x) : ∃ L : List D3, L.length = len ∧ Dirs w a L len ∧ len ≤ maxLen := by
  rcases open_slice Tryz.underlying27 h with ⟨hcs, _⟩ | ⟨a', l, c, m, n, D, Pl, hcs, _, hl, hm, hmm, _, hel⟩
  · simp at hcs
    obtain ⟨rfl, rfl, rfl⟩ := hcs
    exact ⟨[], rfl, .inl rfl, Nat.zero_le _⟩
  · simp at hcs
    obtain ⟨rfl, rfl, rfl⟩ := hcs
    have hlm : len ≤ m := by rw [hmm]; simp; exact hl
    have each : ∀ i, i < len → ∃ s : D3, w.cell? (a'.add (i * 3)) = some (.int .i64 s.1) ∧ w.cell? (a'.add (i * 3 + 1)) = some (.int .i64 s.2.1) ∧ w.cell? (a'.add (i * 3 + 2)) = some (.int .i64 s.2.2) := by
      intro i hi
      obtain ⟨cs, h1, h2⟩ := hel i (by omega)
      rw [cellsDV] at h1
      obtain ⟨_, hlen, hcell⟩ := World.cells?_some h1
      match cs, hlen with
      | [v1, v2, v3], _ =>
        obtain ⟨z0, z1, z2, n2, _, _, k0, k1, k2⟩ := trod_struct3 Tryz.underlying115 h2
        have k0' : DataW.trod enc Tryz.prog w 0 (fun _ => true) true n2 2 (([v1, v2, v3].drop 0).take (Tryz.prog.cellsOf 2)) = some z0 := k0
        have k1' : DataW.trod enc Tryz.prog w 0 (fun _ => true) true n2 2 (([v1, v2, v3].drop 1).take (Tryz.prog.cellsOf 2)) = some z1 := k1
        have k2' : DataW.trod enc Tryz.prog w 0 (fun _ => true) true n2 2 (([v1, v2, v3].drop 2).take (Tryz.prog.cellsOf 2)) = some z2 := k2
        rw [cellsDI] at k0' k1' k2'
        obtain ⟨i1, e1, _, _⟩ := DataW.trod_int Tryz.underlying2 k0'
        obtain ⟨i2, e2, _, _⟩ := DataW.trod_int Tryz.underlying2 k1'
        obtain ⟨i3, e3, _, _⟩ := DataW.trod_int Tryz.underlying2 k2'
        simp at e1 e2 e3
        subst e1 e2 e3
        have c0 := hcell 0 (by omega)
        have c1 := hcell 1 (by omega)
        have c2 := hcell 2 (by omega)
        rw [add_add] at c0 c1 c2
        exact ⟨(i1, i2, i3), by simpa using c0, by simpa using c1, by simpa using c2⟩
    obtain ⟨f, hf⟩ := choose_lt each
    refine ⟨(List.range len).map f, by simp, ?_, by omega⟩
    rcases Nat.eq_zero_or_pos len with h0 | h0
    · exact .inl h0
    · have hs : (a'.add (0 * 3)).spot = none := spot_noneD (hf 0 h0).1
      have hb : (a'.add (0 * 3)).block < w.heap.size := World.block_lt_of_cell? w _ (hf 0 h0).1
      obtain ⟨bx, ox, sx⟩ := a'
      have hs' : sx = none := by simpa [Addr.add] using hs
      subst hs'
      have hA : ∀ j, (⟨bx, ox, none⟩ : Addr).add j = ⟨bx, ox + j, none⟩ := fun j => by unfold Addr.add; split <;> simp_all
      refine .inr ⟨bx, ox, rfl, by simpa [Addr.add] using hb, fun i hi => ?_⟩
      obtain ⟨c0, c1, c2⟩ := hf i hi
      rw [hA] at c0 c1 c2
      rw [vA_range len f hi]
      exact ⟨c0, by rw [Nat.add_assoc]; exact c1, by rw [Nat.add_assoc]; exact c2⟩
end Go.Proofs.YteoonaanoenjiaaGreatDoor
namespace Go.Proofs.YteoonaanoenjiaaGreatDoor
open Go.RowKit Go.Sort
set_option linter.unusedVariables false
abbrev V3 := Int × Int × Int
def PairAt (w : World) (b : Nat) (x y : Int) : Prop := w.cell? ⟨b, 0, none⟩ = some (.int .i64 x) ∧ w.cell? ⟨b, 1, none⟩ = some (.int .i64 y)
theorem PairAt.kept {w w' : World} {b : Nat} {x y : Int} (h : PairAt w b x y) (hB : Below w.heap.size w w') : PairAt w' b x y := by
  have hb := World.block_lt_of_cell? w _ h.1
  exact ⟨by rw [hB.cell (p := ⟨b, 0, none⟩) hb]; exact h.1, by rw [hB.cell (p := ⟨b, 1, none⟩) hb]; exact h.2⟩
end Go.Proofs.YteoonaanoenjiaaGreatDoor
namespace Go.Proofs.YteoonaanoenjiaaGreatDoor
open Go.RowKit
set_option linter.unusedVariables false
end Go.Proofs.YteoonaanoenjiaaGreatDoor
namespace Go.Proofs.YteoonaanoenjiaaGreatDoor
open Go.RowKit Go.Sort
set_option linter.unusedVariables false
abbrev P2 := Int × Int
abbrev Sp := P2 × V3 × V3
def SpanAt (w : World) (b : Nat) (x y a1 a2 a3 b1 b2 b3 : Int) : Prop := w.cell? ⟨b, 0, none⟩ = some (.int .i64 x) ∧ w.cell? ⟨b, 1, none⟩ = some (.int .i64 y) ∧ w.cell? ⟨b, 2, none⟩ = some (.int .i64 a1) ∧ w.cell? ⟨b, 3, none⟩ = some (.int .i64 a2) ∧ w.cell? ⟨b, 4, none⟩ = some (.int .i64 a3) ∧ w.cell? ⟨b, 5, none⟩ = some (.int .i64 b1) ∧ w.cell? ⟨b, 6, none⟩ = some (.int .i64 b2) ∧ w.cell? ⟨b, 7, none⟩ = some (.int .i64 b3)
theorem SpanAt.kept {w w' : World} {b : Nat} {x y a1 a2 a3 b1 b2 b3 : Int} (h : SpanAt w b x y a1 a2 a3 b1 b2 b3) (hB : Below w.heap.size w w') : SpanAt w' b x y a1 a2 a3 b1 b2 b3 := by
  have hb := World.block_lt_of_cell? w _ h.1
  obtain ⟨h0, h1, h2, h3, h4, h5, h6, h7⟩ := h
  exact ⟨by rw [hB.cell (p := ⟨b, 0, none⟩) hb]; exact h0, by rw [hB.cell (p := ⟨b, 1, none⟩) hb]; exact h1, by rw [hB.cell (p := ⟨b, 2, none⟩) hb]; exact h2, by rw [hB.cell (p := ⟨b, 3, none⟩) hb]; exact h3, by rw [hB.cell (p := ⟨b, 4, none⟩) hb]; exact h4, by rw [hB.cell (p := ⟨b, 5, none⟩) hb]; exact h5, by rw [hB.cell (p := ⟨b, 6, none⟩) hb]; exact h6, by rw [hB.cell (p := ⟨b, 7, none⟩) hb]; exact h7⟩
def SpOff (w : World) (b o : Nat) (s : Sp) : Prop := w.cell? ⟨b, o, none⟩ = some (.int .i64 s.1.1) ∧ w.cell? ⟨b, o + 1, none⟩ = some (.int .i64 s.1.2) ∧ w.cell? ⟨b, o + 2, none⟩ = some (.int .i64 s.2.1.1) ∧ w.cell? ⟨b, o + 3, none⟩ = some (.int .i64 s.2.1.2.1) ∧ w.cell? ⟨b, o + 4, none⟩ = some (.int .i64 s.2.1.2.2) ∧ w.cell? ⟨b, o + 5, none⟩ = some (.int .i64 s.2.2.1) ∧ w.cell? ⟨b, o + 6, none⟩ = some (.int .i64 s.2.2.2.1) ∧ w.cell? ⟨b, o + 7, none⟩ = some (.int .i64 s.2.2.2.2)
theorem SpOff.kept {w w' : World} {b o : Nat} {s : Sp} (h : SpOff w b o s) (hB : Below w.heap.size w w') : SpOff w' b o s := by
  have hb : b < w.heap.size := World.block_lt_of_cell? w _ h.1
  obtain ⟨h0, h1, h2, h3, h4, h5, h6, h7⟩ := h
  exact ⟨by rw [hB.cell (p := ⟨b, o, none⟩) hb]; exact h0, by rw [hB.cell (p := ⟨b, o + 1, none⟩) hb]; exact h1, by rw [hB.cell (p := ⟨b, o + 2, none⟩) hb]; exact h2, by rw [hB.cell (p := ⟨b, o + 3, none⟩) hb]; exact h3, by rw [hB.cell (p := ⟨b, o + 4, none⟩) hb]; exact h4, by rw [hB.cell (p := ⟨b, o + 5, none⟩) hb]; exact h5, by rw [hB.cell (p := ⟨b, o + 6, none⟩) hb]; exact h6, by rw [hB.cell (p := ⟨b, o + 7, none⟩) hb]; exact h7⟩
end Go.Proofs.YteoonaanoenjiaaGreatDoor
