/- Several texts in one: TsA, NaB, NaC. -/
import Derived.OwnWalk
import Derived.Laws.OwnMore
import Derived.Deep.RegionHeld
import Derived.WalkMore
import Derived.Test.YtjdehbpgdplolaaGreatDoorQLookOwn8
import Derived.Test.YtjdehbpgdplolaaGreatDoorQLookOwn9
import Derived.Test.YtjdehbpgdplolaaGreatDoorQLookOwn7
namespace Go.Proofs.YtjdehbpgdplolaaGreatDoor
open Go.RowKit Go.Sort
set_option linter.unusedVariables false

theorem oKept {w w' : World} {B : Nat} {t : TypeId} {v : Value} {n m : Nat} {xs : List Value} (h : w.ownsRow B t m v n xs) (hB : Below w.heap.size w w') : w'.ownsRow B t m v n xs :=
  h.kept (row := none) ⟨hB.os, hB.tape, hB.output, hB.size, fun k hk _ => hB.block k hk⟩ (by cases hv : v.ownBlock <;> simp)
theorem oSlice {w : World} {B : Nat} {t : TypeId} {v : Value} {n m : Nat} {xs : List Value} (h : w.ownsRow B t m v n xs) : ∃ a c, v = .slice a n c := by
  rcases h.2 with ⟨h1, h0⟩ | ⟨g, cap, cur, hv, _⟩
  · exact ⟨none, 0, by rw [h1, h0]⟩
  · exact ⟨_, _, hv⟩
theorem oBelow {B : Nat} {w w1 w2 : World} {v : Value} {t : TypeId} {n m : Nat} {xs : List Value} (h : Below B w w1) (ho : w1.ownsRow B t m v n xs) (hg : w1.grownBy w2 v.ownBlock) (hB : B ≤ w1.heap.size) : Below B w w2 :=
  h.trans ⟨hg.os, hg.tape, hg.output, hg.size, fun k hk => hg.block k (by omega) (fun e => by have := (ho.lt k e.symm).1; omega)⟩
theorem new_cells (w : World) (vs : List Value) (t : TypeId) : ∀ (j : Nat) (u : Value), vs[j]? = some u → (w.alloc (.cells vs.toArray t)).cell? ((⟨w.heap.size, 0, none⟩ : Addr).add j) = some u := by
  intro j u hj
  have e : (⟨w.heap.size, 0, none⟩ : Addr).add j = ⟨w.heap.size, j, none⟩ := by cases j <;> simp [Addr.add]
  rw [e]
  simp [hj]
abbrev T4 := Int × Int × Int × Int
theorem info_turn : (Tryz.prog.info? 31).map (fun i => (i.zero, i.size, i.bytes)) = some (some (.agg #[.int .i64 0, .int .i64 0, .int .i64 0, .int .i64 0]), 4, 32) := by kernel_rfl
def turn4 (t : T4) : List Value := [.int .i64 t.1, .int .i64 t.2.1, .int .i64 t.2.2.1, .int .i64 t.2.2.2]
def flatT (S : List T4) : List Value := S.flatMap turn4
theorem flatT_app (A B : List T4) : flatT (A ++ B) = flatT A ++ flatT B := by unfold flatT; rw [List.flatMap_append]
theorem flatT_cell {S : List T4} {v : Value} (h : v ∈ flatT S) : v.oneCell' = true := by
  unfold flatT at h
  rw [List.mem_flatMap] at h
  obtain ⟨p, _, hp⟩ := h
  simp [turn4] at hp
  rcases hp with rfl | rfl | rfl | rfl <;> rfl
/-- the turn of the number n, whose digits to the base of five are its parts -/
def tOf (n : Nat) : T4 := ((n : Int) / 125 - 2, (n : Int) / 25 % 5 - 2, (n : Int) / 5 % 5 - 2, (n : Int) % 5 - 2)
def goodT (t : T4) : Bool := rightT t.1 t.2.1 t.2.2.1 t.2.2.2
def turnsTo (k : Nat) : List T4 := ((List.range k).map tOf).filter goodT
theorem turns_len (k : Nat) : (turnsTo k).length ≤ k := by
  have h := List.length_filter_le goodT ((List.range k).map tOf)
  rw [List.length_map, List.length_range] at h
  exact h
theorem turns_snoc (k : Nat) : turnsTo (k + 1) = turnsTo k ++ (if goodT (tOf k) = true then [tOf k] else []) := by
  unfold turnsTo
  rw [List.range_succ, List.map_append, List.filter_append]
  congr 1
  cases h : goodT (tOf k)
  · rw [List.map_singleton, List.filter_cons_of_neg (by simp [h])]; rfl
  · rw [List.map_singleton, List.filter_cons_of_pos h]; rfl
theorem tOf_at (a b c d : Nat) (hb : b < 5) (hc : c < 5) (hd : d < 5) : tOf (a * 125 + b * 25 + c * 5 + d) = ((a : Int) - 2, (b : Int) - 2, (c : Int) - 2, (d : Int) - 2) := by
  unfold tOf
  have e1 : ((a * 125 + b * 25 + c * 5 + d : Nat) : Int) / 125 = a := by omega
  have e2 : ((a * 125 + b * 25 + c * 5 + d : Nat) : Int) / 25 % 5 = b := by omega
  have e3 : ((a * 125 + b * 25 + c * 5 + d : Nat) : Int) / 5 % 5 = c := by omega
  have e4 : ((a * 125 + b * 25 + c * 5 + d : Nat) : Int) % 5 = d := by omega
  rw [e1, e2, e3, e4]
theorem ownT_none (w : World) (B : Nat) (h : B ≤ w.heap.size) : (w.alloc (.cells #[] 31)).ownsRow B 31 4 (.slice (some ⟨w.heap.size, 0, none⟩) 0 0) 0 (flatT []) :=
  ⟨rfl, .inr ⟨_, 0, #[], rfl, h, Array.getElem?_push_size, Nat.le_refl _, Nat.zero_le _, rfl, rfl⟩⟩
set_option maxHeartbeats 4000000 in
set_option maxRecDepth 100000 in
theorem implTurns_any (w : World) :
    Calls Tryz.prog 98 #[] w fun e w' => (∃ v, e = .returned v ∧ w'.ownsRow w.heap.size 31 4 v (turnsTo 625).length (flatT (turnsTo 625))) ∧ Below w.heap.size w w' := by
  obtain ⟨i0, hinf, hz0, hz1, hz2⟩ := info_parts info_turn
  have hm8 : 1000 ≤ maxLen := by decide +kernel
  go_enter Tryz.func98, Tryz.ntmps98
  go_wp2_with fail
  go_loopw [1, 4] (fun v kk wr => ∃ k : Nat, k ≤ 625 ∧ kk = .int .i64 k ∧ Hid (wr.ownsRow w.heap.size 31 4 v (turnsTo k).length (flatT (turnsTo k))) ∧ Hid (Below w.heap.size w wr)) (fun _ kk _ => 625 - (intOf kk).toNat)
  case atStart => exact ⟨0, by omega, rfl, hide (World.ownsRow_nil _ _ _ _), hide (Below.refl _ _)⟩
  case round =>
    obtain ⟨k, hk, rfl, HO, HB⟩ := hrel
    by_cases hkn : k < 625
    · have hkn2 : (k : Int) < 625 := by omega
      have HSN : Hid (turnsTo (k + 1) = turnsTo k ++ (if goodT ((k : Int) / 125 - 2, (k : Int) / 25 % 5 - 2, (k : Int) / 5 % 5 - 2, (k : Int) % 5 - 2) = true then [((k : Int) / 125 - 2, (k : Int) / 25 % 5 - 2, (k : Int) / 5 % 5 - 2, (k : Int) % 5 - 2)] else [])) := hide (turns_snoc k)
      have hpl := turns_len k
      have Z := below1 wr (.cells #[.int .i64 ((k : Int) / 125 - 2), .int .i64 ((k : Int) / 25 % 5 - 2), .int .i64 ((k : Int) / 5 % 5 - 2), .int .i64 ((k : Int) % 5 - 2)] 31)
      have HB1 := hide (below_call (unhide HB) Z)
      have HO1 := hide (oKept (unhide HO) Z)
      have TA1 := turnAt_new wr ((k : Int) / 125 - 2) ((k : Int) / 25 % 5 - 2) ((k : Int) / 5 % 5 - 2) ((k : Int) % 5 - 2) 31
      clear Z HO HB
      go_wp2_with fail
      generalize (k : Int) / 125 - 2 = p at *
      generalize (k : Int) / 25 % 5 - 2 = q at *
      generalize (k : Int) / 5 % 5 - 2 = r at *
      generalize (k : Int) % 5 - 2 = s at *
      generalize wr.alloc (.cells #[.int .i64 p, .int .i64 q, .int .i64 r, .int .i64 s] 31) = W1 at HB1 HO1 TA1 ⊢
      refine (turnRight_any p q r s _).mono ?_
      rintro e W2 ⟨rfl, hx⟩
      have TA2 := TA1.kept TA1.lt hx
      have HB2 := hide (below_call (unhide HB1) hx)
      have HO2 := hide (oKept (unhide HO1) hx)
      clear hx TA1 HB1 HO1
      have HG : Hid (goodT (p, q, r, s) = rightT p q r s) := hide rfl
      generalize wr.heap.size = tb at *
      cases hr : rightT p q r s
      · rw [hr] at HG
        rw [unhide HG, if_neg (by simp), List.append_nil] at HSN
        have HO3 : Hid (W2.ownsRow w.heap.size 31 4 u1 (turnsTo (k + 1)).length (flatT (turnsTo (k + 1)))) := hide (by rw [unhide HSN]; exact unhide HO2)
        go_wp2_with fail
        go_roundw
        case rel => exact ⟨k + 1, by omega, by go_num, HO3, HB2⟩
        case measure => simp [intOf] <;> omega
      · rw [hr] at HG
        rw [unhide HG, if_pos rfl] at HSN
        obtain ⟨e0, e1, e2, e3⟩ := TA2
        have Z1 := below1 W2 (.cells #[.int .i64 p, .int .i64 q, .int .i64 r, .int .i64 s] 31)
        have hown := oKept (unhide HO2) Z1
        have B3 := below_call (unhide HB2) Z1
        have hsz := (unhide HB2).size
        clear Z1 HO2 HB2
        generalize turnsTo k = Pk at *
        go_wp2_with (at_builtin; refine wpList_append_own _ rfl _ _ 106 rfl w.heap.size 31 i0 (.agg #[.int .i64 0, .int .i64 0, .int .i64 0, .int .i64 0]) 4 32 Tryz.underlying106 hinf hz0 hz1 hz2 rfl (by decide) _ _ _ rfl hown ⟨W2.heap.size, 0, none⟩ 1 1 (flatT [(p, q, r, s)]) rfl rfl ?d2 (fun u hu => flatT_cell hu) ?d3 ?d4 ?d5 ?_)
        case d2 => first | exact fun j u h => h | exact new_cells _ _ _
        case d3 => omega
        case d4 => omega
        case d5 => first | omega | (simp; omega)
        intro v7 V7 hown7 hgrow7 _
        have HB8 := hide (oBelow B3 hown hgrow7 (by simp; omega))
        have HO8 : Hid (V7.ownsRow w.heap.size 31 4 v7 (turnsTo (k + 1)).length (flatT (turnsTo (k + 1)))) := hide (by rw [unhide HSN, flatT_app, List.length_append]; exact hown7)
        clear hown7 hgrow7 hown B3 e0 e1 e2 e3
        go_wp2_with fail
        go_roundw
        case rel => exact ⟨k + 1, by omega, by go_num, HO8, HB8⟩
        case measure => simp [intOf] <;> omega
    · have hke : k = 625 := by omega
      subst hke
      go_wp2_with fail
      go_ret
      exact ⟨⟨_, rfl, unhide HO⟩, unhide HB⟩
end Go.Proofs.YtjdehbpgdplolaaGreatDoor

namespace Go.Proofs.YtjdehbpgdplolaaGreatDoor
open Go.RowKit Go.Sort
set_option linter.unusedVariables false
set_option linter.unusedSimpArgs false

theorem step_append7 {P : Program} {ops : Array Oper} {o : Oper} {a : Act} {w : World} {K : Act → World → Prop} {Q : Exit → Act → World → Prop} {E : Prop} (hgd : o.guard = none) (s x : Operand) (t : TypeId)
    (ho : o.op = .call { callee := .builtin .append, args := #[s, x], argTypes := #[t, t] })
    (base : Nat) (e : TypeId) (i : TypeInfo) (z : Value) (size bytes : Nat) (ht : P.underlying t = some (.slice e)) (hi : P.info? e = some i) (hz : i.zero = some z)
    (hsize : i.size = size) (hby : i.bytes = bytes) (hzs : z.cells.size = size) (hsz : 0 < size)
    (v : Value) (n : Nat) (xs : List Value) (hs : a.eval s = v) (hown : w.ownsRow base e size v n xs)
    (ad : Addr) (m c : Nat) (news : List Value) (hx : a.eval x = .slice (some ad) m c) (hl : news.length = m * size) (hnews : ∀ j u, news[j]? = some u → w.cell? (ad.add j) = some u) (h1 : ∀ u ∈ news, u.oneCell' = true)
    (h63 : n + m ≤ maxLen) (hbytes : (n + m) * bytes ≤ 140737488355328) (hbase : base ≤ w.heap.size)
    (h : ∀ v' w', w'.ownsRow base e size v' (n + m) (xs ++ news) → w.grownBy w' v.ownBlock → K (a.put o.dst v') w') : if Region.wanted o (yielded ops a.tmps) = true then Oper.wp P o a w K Q else E := by
  have hw : Region.wanted o (yielded ops a.tmps) = true := by simp [Region.wanted, hgd]
  rw [if_pos hw]
  exact wp_append_own w s x t ho base e i z size bytes ht hi hz hsize hby hzs hsz v n xs hs hown ad m c news hx hl hnews h1 h63 hbytes hbase fun v' w' h2 h3 _ => h v' w' h2 h3
theorem cellKept {w w' : World} {a : Addr} {v : Value} (h : w.cell? a = some v) (hB : Below w.heap.size w w') : w'.cell? a = some v := (hB.cell (World.block_lt_of_cell? w a h)).trans h
theorem cellGrown {w w' : World} {a : Addr} {v : Value} {row : Option Nat} (h : w.cell? a = some v) (hg : w.grownBy w' row) (hne : some a.block ≠ row) : w'.cell? a = some v := (World.cell?_of_block (hg.block a.block (World.block_lt_of_cell? w a h) hne)).trans h
theorem info_sight : (Tryz.prog.info? 161).map (fun i => (i.zero, i.size, i.bytes)) = some (some (.agg #[.int .i64 0, .int .i64 0, .int .i64 0, .int .i64 0, .int .i64 0, .int .i64 0, .int .i64 0]), 7, 56) := by kernel_rfl
def flatSg (S : List Sg) : List Value := S.flatMap sgL
theorem flatSg_app (A B : List Sg) : flatSg (A ++ B) = flatSg A ++ flatSg B := by unfold flatSg; rw [List.flatMap_append]
theorem flatSg_cell {S : List Sg} {v : Value} (h : v ∈ flatSg S) : v.oneCell' = true := by
  unfold flatSg at h
  rw [List.mem_flatMap] at h
  obtain ⟨p, _, hp⟩ := h
  simp [sgL] at hp
  rcases hp with rfl | rfl | rfl | rfl | rfl | rfl | rfl <;> rfl
theorem flatSg_at : ∀ (S : List Sg) (k : Nat) (b : Sg), S[k]? = some b → ∀ j u, (sgL b)[j]? = some u → (flatSg S)[k * 7 + j]? = some u := by
  intro S
  induction S with
  | nil => intro k b h; simp at h
  | cons x S ih =>
    intro k b h j u hu
    have e : flatSg (x :: S) = sgL x ++ flatSg S := by unfold flatSg; simp
    have hj : j < 7 := (List.getElem?_eq_some_iff.1 hu).1
    rw [e]
    cases k with
    | zero =>
      simp at h
      subst h
      rw [List.getElem?_append_left (by show _ < 7; omega)]
      simpa using hu
    | succ k =>
      rw [List.getElem?_append_right (by show 7 ≤ _; omega)]
      rw [show (k + 1) * 7 + j - (sgL x).length = k * 7 + j by show _ - 7 = _; omega]
      exact ih k b (by simpa using h) j u hu
/-- an own row of sights, as it is read -/
theorem sights_own {w : World} {B : Nat} {a : Option Addr} {c : Nat} {A : List Sg} (h : w.ownsRow B 161 7 (.slice a A.length c) A.length (flatSg A)) : Sights w a A A.length := by
  rcases h.2 with ⟨h1, h0⟩ | ⟨g, cap, cur, hv, hb, hg, hnc, hcm, hcs, htake⟩
  · exact .inl h0
  · injection hv with e1 e2 e3
    refine .inr ⟨g, 0, e1, (Array.getElem?_eq_some_iff.1 hg).1, fun k hk => ?_⟩
    have hk' : A[k]? = some (sgA A k) := by unfold sgA; rw [List.getD_eq_getElem?_getD, List.getElem?_eq_getElem hk]; rfl
    have cl : ∀ j u, (sgL (sgA A k))[j]? = some u → w.cell? ⟨g, 0 + k * 7 + j, none⟩ = some u := by
      intro j u hu
      have hj : j < 7 := (List.getElem?_eq_some_iff.1 hu).1
      have e := flatSg_at A k _ hk' j u hu
      rw [cell_of_row w g _ cur _ _ hg]
      rw [← htake, List.getElem?_take, if_pos (by omega)] at e
      rw [Nat.zero_add]
      simpa using e
    exact ⟨cl 0 _ rfl, cl 1 _ rfl, cl 2 _ rfl, cl 3 _ rfl, cl 4 _ rfl, cl 5 _ rfl, cl 6 _ rfl⟩
theorem own_cap {w : World} {B : Nat} {a : Option Addr} {c n m : Nat} {t : TypeId} {xs : List Value} (h : w.ownsRow B t m (.slice a n c) n xs) (hm : 0 < m) : n ≤ c := by
  rcases h.2 with ⟨h1, h0⟩ | ⟨g, cap, cur, hv, hb, hg, hnc, hcm, hcs, htake⟩
  · injection h1 with _ e2 e3
    omega
  · injection hv with e1 e2 e3
    omega
set_option maxHeartbeats 4000000 in
set_option maxRecDepth 100000 in
theorem sightsOf_any (L : List St) (S : List D3) (ids : List Int) (n : Nat) (ar br ir : Option Addr) (cr dr er : Nat) (p : Addr) (w : World) (hk : skyB L = true) (hn : L.length ≤ 1048576) (hcap : L.length ≤ cr) (hc9 : cr ≤ 9223372036854775807) (hm : S.length ≤ 6) (hl : n = S.length) (hS : Stars w ar L L.length) (hD : Dirs w br S S.length) (hI : Nums w ir ids n) (hE : ErrSky p w) :
    Calls Tryz.prog 97 #[.slice ar L.length cr, .slice br S.length dr, .slice ir n er] w fun e w' => (∃ v, e = .returned v ∧ w'.ownsRow w.heap.size 161 7 v (sightsTo L S ids n).length (flatSg (sightsTo L S ids n))) ∧ Below w.heap.size w w' := by
  obtain ⟨i0, hinf, hz0, hz1, hz2⟩ := info_parts info_sight
  have hm8 : 1000 ≤ maxLen := by decide +kernel
  have cA := hide (fun (W : World) (id : Int) hW hE => starOf_any L id ar cr p W hn hcap hc9 hW hE)
  have HAT : Hid (∀ id, starV L id = atV L L.length id) := hide (fun id => by unfold starV; rw [if_pos hk])
  have HS := hide hS
  have HD := hide hD
  have HE := hide hE
  have HN := hide (sights_snoc L S ids)
  have HLE := hide (sights_len L S ids)
  have HSO : Hid (∀ i, sgOf L S ids i = (vA S i, (ids.getD i 0, atV L L.length (ids.getD i 0)))) := hide (fun i => rfl)
  clear hS hD hE hk hcap hc9
  generalize hme : S.length = m at *
  subst hl
  generalize L.length = ln at *
  rcases hI with rfl | ⟨ib, io, rfl, hib, hic⟩
  · go_enter Tryz.func97, Tryz.ntmps97
    go_wp2_with fail
    refine wp_loop_rounds 1 ?_
    rw [rounds_succ]
    go_wp2_with fail
    go_ret
    exact ⟨⟨_, rfl, World.ownsRow_nil _ _ _ _⟩, Below.refl _ _⟩
  have HIC := hide hic
  clear hic
  go_enter Tryz.func97, Tryz.ntmps97
  go_wp2_with fail
  go_loopw [7, 13] (fun v kk wr => ∃ i : Nat, i ≤ n ∧ kk = .int .i64 i ∧ Hid (wr.ownsRow w.heap.size 161 7 v (sightsTo L S ids i).length (flatSg (sightsTo L S ids i))) ∧ Hid (Below w.heap.size w wr)) (fun _ kk _ => n - (intOf kk).toNat)
  case atStart => exact ⟨0, by omega, rfl, hide (World.ownsRow_nil _ _ _ _), hide (Below.refl _ _)⟩
  case round =>
    obtain ⟨i, hi, rfl, HO, HB⟩ := hrel
    by_cases hin : i < n
    · have hin2 : (i : Int) < (n : Int) := by omega
      have ci : wr.cell? ⟨ib, io + i, none⟩ = some (.int .i64 (ids.getD i 0)) := by rw [(unhide HB).cell (p := ⟨ib, io + i, none⟩) hib]; exact unhide HIC i hin
      have HSN := hide (unhide HN i)
      have HSI := hide (unhide HSO i)
      have hle := unhide HLE i
      generalize ids.getD i 0 = id at *
      by_cases hid : id = 0
      · subst hid
        rw [if_neg (by simp), List.append_nil] at HSN
        have HO3 : Hid (wr.ownsRow w.heap.size 161 7 u7 (sightsTo L S ids (i + 1)).length (flatSg (sightsTo L S ids (i + 1)))) := hide (by rw [unhide HSN]; exact unhide HO)
        go_wp2_with fail
        go_roundw
        case rel => exact ⟨i + 1, by omega, by go_num, HO3, HB⟩
        case measure => simp [intOf] <;> omega
      · have hid' : (id == 0) = false := by simp [hid]
        rw [if_pos hid] at HSN
        rw [unhide HSI] at HSN
        clear HSI
        have cA' := hide (fun (W : World) hW hE => unhide cA W id hW hE)
        rw [unhide HAT id] at cA'
        generalize atV L ln id = q at *
        obtain ⟨q1, q2, q3⟩ := q
        go_wp2_with fail
        refine (unhide cA' _ ((unhide HS).kept (unhide HB)) ((unhide HE).kept (unhide HB))).mono ?_
        rintro e W1 ⟨rfl, hx⟩
        unfold vecV
        simp only
        have HO1 := oKept (unhide HO) hx
        have HB1 := below_call (unhide HB) hx
        clear hx HO HB cA'
        have HU : Hid (∀ z, u7.ownBlock = some z → w.heap.size ≤ z ∧ z < W1.heap.size) := hide (fun z e => HO1.lt z e)
        have Z := below1 W1 (.cells #[.int .i64 id, .int .i64 q1, .int .i64 q2, .int .i64 q3] 85)
        have HO2 := hide (oKept HO1 Z)
        have HB2 := hide (below_call HB1 Z)
        have N2 := hide (starAt_new W1 (id, q1, q2, q3) 85)
        clear Z HO1 HB1 ci
        go_wp2_with fail
        generalize W1.alloc (.cells #[.int .i64 id, .int .i64 q1, .int .i64 q2, .int .i64 q3] 85) = W2 at HO2 HB2 N2 ⊢
        generalize W1.heap.size = tb at *
        rcases unhide HD with h | ⟨bb, bo, rfl, hbb, hbc⟩
        · omega
        have hst := (hbc i hin).kept hbb (unhide HB2)
        clear hbc
        generalize vA S i = sv at *
        obtain ⟨v1, v2, v3⟩ := sv
        obtain ⟨c0, c1, c2⟩ := hst
        obtain ⟨d0, d1, d2, d3⟩ := unhide N2
        simp only [Nat.zero_add] at d0 d1 d2 d3
        simp only at c0 c1 c2
        refine wp_region_held_drew (S := (fun w' => (w'.cell? ⟨bb, bo + i * 3, none⟩ = some (.int .i64 v1) ∧ w'.cell? ⟨bb, bo + i * 3 + 1, none⟩ = some (.int .i64 v2) ∧ w'.cell? ⟨bb, bo + i * 3 + 2, none⟩ = some (.int .i64 v3)) ∧ w'.cell? ⟨tb, 0, none⟩ = some (.int .i64 id) ∧ w'.cell? ⟨tb, 1, none⟩ = some (.int .i64 q1) ∧ w'.cell? ⟨tb, 2, none⟩ = some (.int .i64 q2) ∧ w'.cell? ⟨tb, 3, none⟩ = some (.int .i64 q3))) (by kernel_rfl) ?_ (fun hHeld => ?_)
        · exact ⟨⟨c0, c1, c2⟩, d0, d1, d2, d3⟩
        refine wpAnyH_take (i := 0) (v := ?_) rfl (by kernel_rfl) (by kernel_rfl) (by kernel_rfl) (fun _ _ _ h => h) (Or.inl ⟨by rfl, ?_⟩) (by assumption) ?_
        rotate_left
        · intro W0 hSw; (try dsimp only at hSw); go_simp <;> with_reducible rfl
        try simp only [Act.put, List.setIfInBounds_toArray, List.set_cons_zero, List.set_cons_succ]
        refine wpAnyH_take (i := 1) (v := ?_) rfl (by kernel_rfl) (by kernel_rfl) (by kernel_rfl) (fun _ _ _ h => h) (Or.inl ⟨by rfl, ?_⟩) (by assumption) ?_
        rotate_left
        · intro W0 hSw; (try dsimp only at hSw); go_simp <;> with_reducible rfl
        try simp only [Act.put, List.setIfInBounds_toArray, List.set_cons_zero, List.set_cons_succ]
        refine wpAnyH_take (i := 2) (v := ?_) rfl (by kernel_rfl) (by kernel_rfl) (by kernel_rfl) (fun _ _ _ h => h) (Or.inl ⟨by rfl, ?_⟩) (by assumption) ?_
        rotate_left
        · intro W0 hSw; (try dsimp only at hSw); go_simp <;> with_reducible rfl
        try simp only [Act.put, List.setIfInBounds_toArray, List.set_cons_zero, List.set_cons_succ]
        refine wpAnyH_take (i := 3) (v := ?_) rfl (by kernel_rfl) (by kernel_rfl) (by kernel_rfl) (fun _ _ _ h => h) (Or.inl ⟨by rfl, ?_⟩) (by assumption) ?_
        rotate_left
        · intro W0 hSw; (try dsimp only at hSw); go_simp <;> with_reducible rfl
        try simp only [Act.put, List.setIfInBounds_toArray, List.set_cons_zero, List.set_cons_succ]
        refine wpAnyH_take (i := 4) (v := ?_) rfl (by kernel_rfl) (by kernel_rfl) (by kernel_rfl) (fun _ _ _ h => h) (Or.inl ⟨by rfl, ?_⟩) (by assumption) ?_
        rotate_left
        · intro W0 hSw; (try dsimp only at hSw); go_simp <;> with_reducible rfl
        try simp only [Act.put, List.setIfInBounds_toArray, List.set_cons_zero, List.set_cons_succ]
        refine wpAnyH_take (i := 5) (v := ?_) rfl (by kernel_rfl) (by kernel_rfl) (by kernel_rfl) (fun _ _ _ h => h) (Or.inl ⟨by rfl, ?_⟩) (by assumption) ?_
        rotate_left
        · intro W0 hSw; (try dsimp only at hSw); go_simp <;> with_reducible rfl
        try simp only [Act.put, List.setIfInBounds_toArray, List.set_cons_zero, List.set_cons_succ]
        refine wpAnyH_take (i := 6) (v := ?_) rfl (by kernel_rfl) (by kernel_rfl) (by kernel_rfl) (fun _ _ _ h => h) (Or.inl ⟨by rfl, ?_⟩) (by assumption) ?_
        rotate_left
        · intro W0 hSw; (try dsimp only at hSw); go_simp <;> with_reducible rfl
        try simp only [Act.put, List.setIfInBounds_toArray, List.set_cons_zero, List.set_cons_succ]
        have HOd : W2.drew.ownsRow w.heap.size 161 7 u7 (sightsTo L S ids i).length (flatSg (sightsTo L S ids i)) := unhide HO2
        have HBd := (unhide HB2).drew
        have hbs : w.heap.size ≤ W2.drew.heap.size := HBd.size
        have hbs2 : w.heap.size ≤ W2.heap.size := hbs
        have c0d : W2.drew.cell? ⟨bb, bo + i * 3, none⟩ = some (.int .i64 v1) := c0
        have c1d : W2.drew.cell? ⟨bb, bo + i * 3 + 1, none⟩ = some (.int .i64 v2) := c1
        have c2d : W2.drew.cell? ⟨bb, bo + i * 3 + 2, none⟩ = some (.int .i64 v3) := c2
        have d0d : W2.drew.cell? ⟨tb, 0, none⟩ = some (.int .i64 id) := d0
        have d1d : W2.drew.cell? ⟨tb, 1, none⟩ = some (.int .i64 q1) := d1
        have d2d : W2.drew.cell? ⟨tb, 2, none⟩ = some (.int .i64 q2) := d2
        have d3d : W2.drew.cell? ⟨tb, 3, none⟩ = some (.int .i64 q3) := d3
        clear c0 c1 c2 d0 d1 d2 d3
        refine wpAnyH_ready (rs := [7]) (by kernel_rfl) (by simp) ?_
        refine AllReadyH.cons rfl (fun K hK => ?_) AllReadyH.nil
        go_simp
        have Z5 := below1 W2.drew (.cells #[.int .i64 v1, .int .i64 v2, .int .i64 v3, .int .i64 id, .int .i64 q1, .int .i64 q2, .int .i64 q3] 161)
        have hown := oKept HOd Z5
        have B5 := below_call HBd Z5
        have c0 := cellKept c0d Z5
        have c1 := cellKept c1d Z5
        have c2 := cellKept c2d Z5
        have d0 := cellKept d0d Z5
        have d1 := cellKept d1d Z5
        have d2 := cellKept d2d Z5
        have d3 := cellKept d3d Z5
        clear Z5 c0d c1d c2d d0d d1d d2d d3d HOd HBd
        refine hK.out _ _ ?_ (fun hHeld3 => ?_)
        · exact ⟨⟨c0, c1, c2⟩, d0, d1, d2, d3⟩
        clear hK K hHeld
        refine wpAnyH_ready (rs := [8]) (by kernel_rfl) (by simp) ?_
        refine AllReadyH.cons rfl (fun K hK => ?_) AllReadyH.nil
        refine step_append7 rfl _ _ 137 rfl w.heap.size 161 i0 (.agg #[.int .i64 0, .int .i64 0, .int .i64 0, .int .i64 0, .int .i64 0, .int .i64 0, .int .i64 0]) 7 56 Tryz.underlying137 hinf hz0 hz1 hz2 rfl (by decide) _ _ _ rfl hown ⟨W2.drew.heap.size, 0, none⟩ 1 1 (flatSg [((v1, v2, v3), (id, q1, q2, q3))]) rfl rfl ?d2 (fun u hu => flatSg_cell hu) ?d3 ?d4 ?d5 ?_
        case d2 => first | exact fun j u h => h | exact new_cells _ _ _
        case d3 => omega
        case d4 => omega
        case d5 => first | omega | (simp; omega)
        intro v7 V7 hown7 hgrow7
        have neb : ∀ z, z < w.heap.size ∨ tb ≤ z → some z ≠ u7.ownBlock := fun z hz e => by have := unhide HU z e.symm; omega
        have HB8 : Hid (Below w.heap.size w V7) := hide (B5.trans ⟨hgrow7.os, hgrow7.tape, hgrow7.output, hgrow7.size, fun z hz => hgrow7.block z (by simp; omega) (neb z (.inl hz))⟩)
        have c0' := cellGrown c0 hgrow7 (neb _ (.inl hbb))
        have c1' := cellGrown c1 hgrow7 (neb _ (.inl hbb))
        have c2' := cellGrown c2 hgrow7 (neb _ (.inl hbb))
        have d0' := cellGrown d0 hgrow7 (neb _ (.inr (Nat.le_refl _)))
        have d1' := cellGrown d1 hgrow7 (neb _ (.inr (Nat.le_refl _)))
        have d2' := cellGrown d2 hgrow7 (neb _ (.inr (Nat.le_refl _)))
        have d3' := cellGrown d3 hgrow7 (neb _ (.inr (Nat.le_refl _)))
        have HO8 : Hid (V7.ownsRow w.heap.size 161 7 v7 (sightsTo L S ids (i + 1)).length (flatSg (sightsTo L S ids (i + 1)))) := hide (by rw [unhide HSN, flatSg_app, List.length_append]; exact hown7)
        clear hown7 hgrow7 hown B5 c0 c1 c2 d0 d1 d2 d3 neb
        refine hK.out _ _ ?_ (fun hHeld4 => ?_)
        · exact ⟨⟨c0', c1', c2'⟩, d0', d1', d2', d3'⟩
        clear hK K hHeld3
        refine wpAnyH_ready (rs := [9]) (by kernel_rfl) (by simp) ?_
        refine AllReadyH.cons rfl (fun K hK => ?_) AllReadyH.nil
        go_simp
        refine hK.out _ _ ?_ (fun hHeld5 => ?_)
        · exact ⟨⟨c0', c1', c2'⟩, d0', d1', d2', d3'⟩
        clear hK K hHeld4
        refine wpAnyH_done (by kernel_rfl) ?_ _
        clear c0' c1' c2' d0' d1' d2' d3' hHeld5
        go_wp2_with fail
        go_roundw
        case rel => exact ⟨i + 1, by omega, by go_num, HO8, HB8⟩
        case measure => simp [intOf] <;> omega
    · have hin' : i = n := by omega
      subst hin'
      go_wp2_with fail
      go_ret
      exact ⟨⟨_, rfl, unhide HO⟩, unhide HB⟩
end Go.Proofs.YtjdehbpgdplolaaGreatDoor

namespace Go.Proofs.YtjdehbpgdplolaaGreatDoor
open Go.RowKit Go.Sort
set_option linter.unusedVariables false

theorem named_no1 {L : List St} {S : List D3} {ids : List Int} (h : skyB L = false) : namedB L S ids = false := by unfold namedB; rw [h]; rfl
theorem named_no2 {L : List St} {S : List D3} {ids : List Int} (h : spotsB S = false) : namedB L S ids = false := by unfold namedB; rw [h, Bool.and_false]; rfl
theorem named_no3 {L : List St} {S : List D3} {ids : List Int} (h : ids.length ≠ S.length) : namedB L S ids = false := by unfold namedB; rw [decide_eq_false h, Bool.and_false]; rfl
theorem named_yes {L : List St} {S : List D3} {ids : List Int} (h1 : skyB L = true) (h2 : spotsB S = true) (h3 : ids.length = S.length) : namedB L S ids = allFit (sightsTo L S ids ids.length) (sightsTo L S ids ids.length).length := by unfold namedB; rw [h1, h2, decide_eq_true h3]; rfl
theorem allFit_yes {A : List Sg} {n : Nat} (h : ∀ i, i < n → (!zeroD (sgA A i).2.2 && fitsB A (sgA A i) i) = true) : allFit A n = true := by
  unfold allFit
  rw [List.all_eq_true]
  exact fun i hi => h i (List.mem_range.1 hi)
theorem allFit_no {A : List Sg} {n i : Nat} (hi : i < n) (h : (!zeroD (sgA A i).2.2 && fitsB A (sgA A i) i) = false) : allFit A n = false := by
  unfold allFit
  rw [List.all_eq_false]
  exact ⟨i, List.mem_range.2 hi, by rw [h]; simp⟩
theorem own_capMax {w : World} {B : Nat} {a : Option Addr} {c n m : Nat} {t : TypeId} {xs : List Value} (h : w.ownsRow B t m (.slice a n c) n xs) : c ≤ maxLen := by
  rcases h.2 with ⟨h1, h0⟩ | ⟨g, cap, cur, hv, hb, hg, hnc, hcm, hcs, htake⟩
  · injection h1 with _ e2 e3
    omega
  · injection hv with e1 e2 e3
    omega
set_option maxHeartbeats 4000000 in
set_option maxRecDepth 100000 in
theorem implNamed_any (L : List St) (S : List D3) (ids : List Int) (ar br ir : Option Addr) (cr dr er : Nat) (p : Addr) (w : World) (hn : L.length ≤ 1048576) (hcap : L.length ≤ cr) (hc9 : cr ≤ 9223372036854775807) (hn2 : S.length ≤ 1048576) (hcap2 : S.length ≤ dr) (hd9 : dr ≤ 9223372036854775807) (hn3 : ids.length ≤ 1048576) (hS : Stars w ar L L.length) (hD : Dirs w br S S.length) (hI : Nums w ir ids ids.length) (hE : ErrSky p w) :
    Calls Tryz.prog 96 #[.slice ar L.length cr, .slice br S.length dr, .slice ir ids.length er] w fun e w' => e = .returned (.bool (namedB L S ids)) ∧ Below w.heap.size w w' := by
  have cK := hide (fun (W : World) hW hE => skyRight_any L ar cr p W hn hcap hc9 hW hE)
  have cP := hide (fun (W : World) hW => spotsRight_any S br dr W hn2 hcap2 hd9 hW)
  have cO : Hid (skyB L = true → S.length ≤ 6 → ids.length = S.length → ∀ W : World, Stars W ar L L.length → Dirs W br S S.length → Nums W ir ids ids.length → ErrSky p W → Calls Tryz.prog 97 #[.slice ar L.length cr, .slice br S.length dr, .slice ir ids.length er] W fun e w' => (∃ v, e = .returned v ∧ w'.ownsRow W.heap.size 161 7 v (sightsTo L S ids ids.length).length (flatSg (sightsTo L S ids ids.length))) ∧ Below W.heap.size W w') := hide (fun hk hm hl W h1 h2 h3 h4 => sightsOf_any L S ids ids.length ar br ir cr dr er p W hk hn hcap hc9 hm hl h1 h2 h3 h4)
  have H1 : Hid (skyB L = false → namedB L S ids = false) := hide named_no1
  have H2 : Hid (spotsB S = false → namedB L S ids = false) := hide named_no2
  have H3 : Hid (ids.length ≠ S.length → namedB L S ids = false) := hide named_no3
  have H4 : Hid (skyB L = true → spotsB S = true → ids.length = S.length → namedB L S ids = allFit (sightsTo L S ids ids.length) (sightsTo L S ids ids.length).length) := hide named_yes
  have H6 : Hid (spotsB S = true → S.length ≤ 6) := hide (fun h => (spots_ok h).1)
  have hAL := sights_len L S ids ids.length
  have HS := hide hS
  have HD := hide hD
  have HI := hide hI
  have HE := hide hE
  clear hS hD hI hE
  generalize namedB L S ids = R at *
  generalize sightsTo L S ids ids.length = A at *
  generalize S.length = m at *
  generalize ids.length = k at *
  generalize L.length = n at *
  go_enter Tryz.func96, Tryz.ntmps96
  go_wp2_with fail
  refine (unhide cK _ (unhide HS) (unhide HE)).mono ?_
  rintro e W1 ⟨rfl, hx⟩
  have B1 := hide hx
  clear hx
  cases hk : skyB L
  · obtain rfl := unhide H1 hk
    go_wp2_with fail
    go_ret
    exact ⟨rfl, unhide B1⟩
  go_wp2_with fail
  refine (unhide cP _ ((unhide HD).kept (unhide B1))).mono ?_
  rintro e W2 ⟨rfl, hx⟩
  have B2 := hide (below_call (unhide B1) hx)
  clear hx B1
  cases hp : spotsB S
  · obtain rfl := unhide H2 hp
    go_wp2_with fail
    go_ret
    exact ⟨rfl, unhide B2⟩
  by_cases hl0 : k ≠ m
  · obtain rfl := unhide H3 hl0
    have hl' : ¬ (k : Int) = (m : Int) := by omega
    have hl2 : ((k : Int) == (m : Int)) = false := by simp; omega
    go_wp2_with fail
    go_ret
    exact ⟨rfl, unhide B2⟩
  have hl : k = m := Decidable.not_not.1 hl0
  clear hl0
  have HR := hide (unhide H4 hk hp hl)
  have hm6 := unhide H6 hp
  have cO' := hide (unhide cO hk hm6 hl)
  subst hl
  clear hk hp H1 H2 H3 H4 H6 cK cP cO
  go_wp2_with fail
  refine (unhide cO' _ ((unhide HS).kept (unhide B2)) ((unhide HD).kept (unhide B2)) ((unhide HI).kept (unhide B2)) ((unhide HE).kept (unhide B2))).mono ?_
  rintro e W3 ⟨⟨v3, rfl, ho⟩, hx⟩
  obtain ⟨a3, c3, rfl⟩ := oSlice ho
  have hcap3 := own_cap ho (by omega)
  have HSG := hide (sights_own ho)
  have B3 := hide (below_call (unhide B2) hx)
  have hc39 : c3 ≤ 9223372036854775807 := Nat.le_trans (own_capMax ho) (by decide +kernel)
  clear ho hx B2 cO'
  generalize hal : A.length = al at *
  clear hal
  have cF : Hid (∀ (s : Sg) (i : Nat) (a : Option Addr) (W : World), i ≤ al → Sights W a A i → Calls Tryz.prog 108 #[sgV s, .slice a i c3] W fun e w' => e = .returned (.bool (fitsB A s i)) ∧ Below W.heap.size W w') := hide (fun s i a W hi hs => fitsBehind_any A i s a c3 W (by omega) (by omega) hc39 hs)
  go_wp2_with fail
  rcases unhide HSG with h0 | ⟨sb, so, rfl, hsb, hsc⟩
  · subst h0
    have HY : Hid (R = true) := hide (by rw [unhide HR]; rfl)
    refine wp_loop_rounds 1 ?_
    rw [rounds_succ]
    go_wp2_with fail
    go_ret
    exact ⟨by rw [unhide HY]; rfl, unhide B3⟩
  have HSC := hide hsc
  clear hsc
  have hsb3 : sb < W3.heap.size := hsb
  go_loopw [31] (fun kk wr => ∃ i : Nat, i ≤ al ∧ kk = .int .i64 i ∧ Hid (∀ j, j < i → (!zeroD (sgA A j).2.2 && fitsB A (sgA A j) j) = true) ∧ Hid (Below W3.heap.size W3 wr)) (fun kk _ => al - (intOf kk).toNat)
  case atStart => exact ⟨0, by omega, rfl, hide (fun j hj => absurd hj (Nat.not_lt_zero _)), hide (Below.refl _ _)⟩
  case round =>
    obtain ⟨i, hi, rfl, HF, HB⟩ := hrel
    by_cases hin : i < al
    · have hin2 : (i : Int) < (al : Int) := by omega
      obtain ⟨t, ht⟩ : ∃ t, sgA A i = t := ⟨_, rfl⟩
      have hst := ((unhide HSC) i hin).kept (unhide HB)
      rw [ht] at hst
      have HT := hide ht
      clear ht
      have HSi : Hid (Sights wr (some ⟨sb, so, none⟩) A i) := hide ((((unhide HSG).less (Nat.le_of_lt hin))).kept (unhide HB))
      have cFi := hide (fun W h => unhide cF t i (some ⟨sb, so, none⟩) W (Nat.le_of_lt hin) h)
      have HOK : Hid ((!zeroD (sgA A i).2.2 && fitsB A (sgA A i) i) = (!zeroD t.2.2 && fitsB A t i)) := hide (by rw [unhide HT])
      have Z := below1 wr (.cells #[.int .i64 t.1.1, .int .i64 t.1.2.1, .int .i64 t.1.2.2, .int .i64 t.2.1, .int .i64 t.2.2.1, .int .i64 t.2.2.2.1, .int .i64 t.2.2.2.2] 161)
      have T1 := sgAt_new wr t 161
      have HB1 := hide (below_call (unhide HB) Z)
      have HS1 := hide ((unhide HSi).kept Z)
      clear Z HB HSi
      generalize hfv : fitsB A t i = fv at *
      clear hfv
      obtain ⟨⟨b1, b2, b3⟩, b4, b5, b6, b7⟩ := t
      have cFj : Hid (∀ (W : World), Sights W (some ⟨sb, so, none⟩) A i → Calls Tryz.prog 108 #[.agg #[.int .i64 b1, .int .i64 b2, .int .i64 b3, .int .i64 b4, .int .i64 b5, .int .i64 b6, .int .i64 b7], .slice (some ⟨sb, so, none⟩) i c3] W fun e w' => e = .returned (.bool fv) ∧ Below W.heap.size W w') := cFi
      clear cFi
      have HOK' : Hid ((!zeroD (sgA A i).2.2 && fitsB A (sgA A i) i) = (!eqB b5 b6 b7 0 0 0 && fv)) := HOK
      clear HOK
      have he := fun W => eql_vec b5 b6 b7 0 0 0 W
      obtain ⟨c0, c1, c2, c3', c4, c5, c6⟩ := hst
      simp only at c0 c1 c2 c3' c4 c5 c6 T1 HB1 HS1
      go_wp2_with fail
      clear c0 c1 c2 c3' c4 c5 c6
      generalize wr.alloc (.cells #[.int .i64 b1, .int .i64 b2, .int .i64 b3, .int .i64 b4, .int .i64 b5, .int .i64 b6, .int .i64 b7] 161) = W4 at T1 HB1 HS1 ⊢
      generalize wr.heap.size = tb at *
      obtain ⟨x0, x1, x2, x3, x4, x5, x6⟩ := T1
      simp only [Nat.zero_add] at x0 x1 x2 x3 x4 x5 x6
      have r0 := cell_regrown x0
      have r1 := cell_regrown x1
      have r2 := cell_regrown x2
      have r3 := cell_regrown x3
      have r4 := cell_regrown x4
      have r5 := cell_regrown x5
      have r6 := cell_regrown x6
      clear x0 x1 x2 x3 x4 x5 x6
      have hic : (i : Int) ≤ (c3 : Int) := by omega
      cases hz : eqB b5 b6 b7 0 0 0
      · rw [hz] at he HOK'
        rw [Bool.not_false, Bool.true_and] at HOK'
        refine wp_region_quiet_below (by kernel_rfl) (by kernel_rfl) ?_
        repeat (go_big_quiet_step (first | (with_reducible exact Calls.regrown_of (unhide cFj _ ((unhide HS1).kept (below_regrown _ _ _))))))
        refine wpQuiet_nil ?_
        intro _ hw'
        obtain ⟨⟨dq, osq⟩, hw''⟩ := hw'
        subst hw''
        have hx := below_call (unhide HB1) (below_regrown W4 dq osq)
        generalize grow (redrawn W4 dq) osq = W5 at hx ⊢
        have HB5 := hide hx
        clear hx r0 r1 r2 r3 r4 r5 r6 he cFj HS1 HB1
        cases fv
        · have HNO : Hid (R = false) := hide (by rw [unhide HR]; exact allFit_no hin (unhide HOK'))
          go_wp2_with fail
          go_ret
          exact ⟨by rw [unhide HNO]; rfl, (unhide B3).trans ((unhide HB5).mono (unhide B3).size)⟩
        · go_wp2_with fail
          go_roundw
          case rel => exact ⟨i + 1, by omega, by go_num, hide (fun l hl => by
            by_cases e : l = i
            · rw [e]; exact unhide HOK'
            · exact unhide HF l (by omega)), HB5⟩
          case measure => simp [intOf] <;> omega
      · rw [hz] at he HOK'
        have HNO : Hid (R = false) := hide (by rw [unhide HR]; exact allFit_no hin (unhide HOK'))
        refine wp_region_quiet_below (by kernel_rfl) (by kernel_rfl) ?_
        repeat (go_big_quiet_step (fail))
        refine wpQuiet_nil ?_
        intro _ hw'
        obtain ⟨⟨dq, osq⟩, hw''⟩ := hw'
        subst hw''
        have hx := below_call (unhide HB1) (below_regrown W4 dq osq)
        generalize grow (redrawn W4 dq) osq = W5 at hx ⊢
        go_wp2_with fail
        go_ret
        exact ⟨by rw [unhide HNO]; rfl, (unhide B3).trans (hx.mono (unhide B3).size)⟩
    · have hin' : i = al := by omega
      subst hin'
      have HY : Hid (R = true) := hide (by rw [unhide HR]; exact allFit_yes (unhide HF))
      go_wp2_with fail
      go_ret
      exact ⟨by rw [unhide HY]; rfl, (unhide B3).trans ((unhide HB).mono (unhide B3).size)⟩
end Go.Proofs.YtjdehbpgdplolaaGreatDoor
