/- Several texts in one: TsA, NaB, NaC, MaB, PairF, PairM, PairN, TsD, TfM, SeenA, TurnO. -/
import Derived.OwnWalk
import Derived.Laws.OwnMore
import Derived.Deep.RegionHeld
import Derived.WalkMore
import Derived.Test.YtgiodlllokdcdaaGreatDoorQFnFollowOwn5
import Derived.Test.YtgiodlllokdcdaaGreatDoorQFnFollowOwn4
import Derived.Test.YtgiodlllokdcdaaGreatDoorQFnFollowOwn1
import Derived.Test.YtgiodlllokdcdaaGreatDoorQFnFollowOwn3
import Derived.Test.YtgiodlllokdcdaaGreatDoorQFnFollowOwn2
namespace Go.Proofs.YtgiodlllokdcdaaGreatDoor
set_option linter.unusedVariables false
set_option linter.unusedSimpArgs false
set_option maxRecDepth 100000
set_option maxHeartbeats 8000000
section
open Go.RowKit Go.Sort
theorem fw {w w' : World} {B : Nat} {t : TypeId} {v : Value} {n m : Nat} {xs : List Value} (h : w.ownsRow B t m v n xs) (hB : Below w.heap.size w w') : w'.ownsRow B t m v n xs :=
 h.kept (row := none) ⟨hB.os, hB.tape, hB.output, hB.size, fun k hk _ => hB.block k hk⟩ (by cases hv : v.ownBlock <;> simp)
theorem ue {w : World} {B : Nat} {t : TypeId} {v : Value} {n m : Nat} {xs : List Value} (h : w.ownsRow B t m v n xs) : ∃ a c, v = .slice a n c := by
 rcases h.2 with ⟨h1, h0⟩ | ⟨g, cap, cur, hv, _⟩
 ·exact ⟨none, 0, by rw [h1, h0]⟩
 ·exact ⟨_, _, hv⟩
theorem uc {B : Nat} {w w1 w2 : World} {v : Value} {t : TypeId} {n m : Nat} {xs : List Value} (h : Below B w w1) (ho : w1.ownsRow B t m v n xs) (hg : w1.grownBy w2 v.ownBlock) (hB : B ≤ w1.heap.size) : Below B w w2 :=
 h.trans ⟨hg.os, hg.tape, hg.output, hg.size, fun k hk => hg.block k (by omega) (fun e => by have := (ho.lt k e.symm).1; omega)⟩
theorem fL (w : World) (vs : List Value) (t : TypeId) : ∀ (j : Nat) (u : Value), vs[j]? = some u → (w.alloc (.cells vs.toArray t)).cell? ((⟨w.heap.size, 0, none⟩ : Addr).add j) = some u := by
 intro j u hj
 have e : (⟨w.heap.size, 0, none⟩ : Addr).add j = ⟨w.heap.size, j, none⟩ := by cases j <;> simp [Addr.add]
 rw [e]
 simp [hj]
abbrev T4 := Int × Int × Int × Int
theorem np : (Tryz.prog.info? 25).map (fun i => (i.zero, i.size, i.bytes)) = some (some (.agg #[.int .i64 0, .int .i64 0, .int .i64 0, .int .i64 0]), 4, 32) := by kernel_rfl
def nF (t : T4) : List Value := [.int .i64 t.1, .int .i64 t.2.1, .int .i64 t.2.2.1, .int .i64 t.2.2.2]
def cu (S : List T4) : List Value := S.flatMap nF
theorem mZ (A B : List T4) : cu (A ++ B) = cu A ++ cu B := by unfold cu; rw [List.flatMap_append]
theorem lm {S : List T4} {v : Value} (h : v ∈ cu S) : v.oneCell' = true := by
 unfold cu at h
 rw [List.mem_flatMap] at h
 obtain ⟨p, _, hp⟩ := h
 simp [nF] at hp
 rcases hp with rfl | rfl | rfl | rfl <;> rfl
def tOf (n : Nat) : T4 := ((n : Int) / 125 - 2, (n : Int) / 25 % 5 - 2, (n : Int) / 5 % 5 - 2, (n : Int) % 5 - 2)
def kf (t : T4) : Bool := aB t.1 t.2.1 t.2.2.1 t.2.2.2
def ax (k : Nat) : List T4 := ((List.range k).map tOf).filter kf
theorem iq (k : Nat) : (ax k).length ≤ k := by
 have h := List.length_filter_le kf ((List.range k).map tOf)
 rw [List.length_map, List.length_range] at h
 exact h
theorem mt (k : Nat) : ax (k + 1) = ax k ++ (if kf (tOf k) = true then [tOf k] else []) := by
 unfold ax
 rw [List.range_succ, List.map_append, List.filter_append]
 congr 1
 cases h : kf (tOf k)
 ·rw [List.map_singleton, List.filter_cons_of_neg (by simp [h])]; rfl
 ·rw [List.map_singleton, List.filter_cons_of_pos h]; rfl
theorem vW (a b c d : Nat) (hb : b < 5) (hc : c < 5) (hd : d < 5) : tOf (a * 125 + b * 25 + c * 5 + d) = ((a : Int) - 2, (b : Int) - 2, (c : Int) - 2, (d : Int) - 2) := by
 unfold tOf
 have e1 : ((a * 125 + b * 25 + c * 5 + d : Nat) : Int) / 125 = a := by omega
 have e2 : ((a * 125 + b * 25 + c * 5 + d : Nat) : Int) / 25 % 5 = b := by omega
 have e3 : ((a * 125 + b * 25 + c * 5 + d : Nat) : Int) / 5 % 5 = c := by omega
 have e4 : ((a * 125 + b * 25 + c * 5 + d : Nat) : Int) % 5 = d := by omega
 rw [e1, e2, e3, e4]
theorem sY (w : World) (B : Nat) (h : B ≤ w.heap.size) : (w.alloc (.cells #[] 25)).ownsRow B 25 4 (.slice (some ⟨w.heap.size, 0, none⟩) 0 0) 0 (cu []) :=
 ⟨rfl, .inr ⟨_, 0, #[], rfl, h, Array.getElem?_push_size, Nat.le_refl _, Nat.zero_le _, rfl, rfl⟩⟩
theorem mC (w : World) :
  Calls Tryz.prog 116 #[] w fun e w' => (∃ v, e = .returned v ∧ w'.ownsRow w.heap.size 25 4 v (ax 625).length (cu (ax 625))) ∧ Below w.heap.size w w' := by
 obtain ⟨i0, hinf, hz0, hz1, hz2⟩ := info_parts np
 have hm8 : 1000 ≤ maxLen := by decide +kernel
 go_enter Tryz.func116, Tryz.ntmps116
 go_wp2_with fail
 go_loopw [1, 4] (fun v kk wr => ∃ k : Nat, k ≤ 625 ∧ kk = .int .i64 k ∧ Hid (wr.ownsRow w.heap.size 25 4 v (ax k).length (cu (ax k))) ∧ Hid (Below w.heap.size w wr)) (fun _ kk _ => 625 - (intOf kk).toNat)
 case atStart => exact ⟨0, by omega, rfl, yz (World.ownsRow_nil _ _ _ _), yz (Below.refl _ _)⟩
 case round =>
  obtain ⟨k, hk, rfl, HO, HB⟩ := hrel
  by_cases hkn : k < 625
  ·have hkn2 : (k : Int) < 625 := by omega
   have HSN : Hid (ax (k + 1) = ax k ++ (if kf ((k : Int) / 125 - 2, (k : Int) / 25 % 5 - 2, (k : Int) / 5 % 5 - 2, (k : Int) % 5 - 2) = true then [((k : Int) / 125 - 2, (k : Int) / 25 % 5 - 2, (k : Int) / 5 % 5 - 2, (k : Int) % 5 - 2)] else [])) := yz (mt k)
   have hpl := iq k
   have Z := an wr (.cells #[.int .i64 ((k : Int) / 125 - 2), .int .i64 ((k : Int) / 25 % 5 - 2), .int .i64 ((k : Int) / 5 % 5 - 2), .int .i64 ((k : Int) % 5 - 2)] 25)
   have HB1 := yz (aj (yy HB) Z)
   have HO1 := yz (fw (yy HO) Z)
   have TA1 := aK wr ((k : Int) / 125 - 2) ((k : Int) / 25 % 5 - 2) ((k : Int) / 5 % 5 - 2) ((k : Int) % 5 - 2) 25
   clear Z HO HB
   go_wp2_with fail
   generalize (k : Int) / 125 - 2 = p at *
   generalize (k : Int) / 25 % 5 - 2 = q at *
   generalize (k : Int) / 5 % 5 - 2 = r at *
   generalize (k : Int) % 5 - 2 = s at *
   generalize wr.alloc (.cells #[.int .i64 p, .int .i64 q, .int .i64 r, .int .i64 s] 25) = W1 at HB1 HO1 TA1 ⊢
   refine (bt p q r s _).mono ?_
   rintro e W2 ⟨rfl, hx⟩
   have TA2 := TA1.kept TA1.lt hx
   have HB2 := yz (aj (yy HB1) hx)
   have HO2 := yz (fw (yy HO1) hx)
   clear hx TA1 HB1 HO1
   have HG : Hid (kf (p, q, r, s) = aB p q r s) := yz rfl
   generalize wr.heap.size = tb at *
   cases hr : aB p q r s
   ·rw [hr] at HG
    rw [yy HG, if_neg (by simp), List.append_nil] at HSN
    have HO3 : Hid (W2.ownsRow w.heap.size 25 4 u1 (ax (k + 1)).length (cu (ax (k + 1)))) := yz (by rw [yy HSN]; exact yy HO2)
    go_wp2_with fail
    go_roundw
    case rel => exact ⟨k + 1, by omega, by go_num, HO3, HB2⟩
    case measure => simp [intOf] <;> omega
   ·rw [hr] at HG
    rw [yy HG, if_pos rfl] at HSN
    obtain ⟨e0, e1, e2, e3⟩ := TA2
    have Z1 := an W2 (.cells #[.int .i64 p, .int .i64 q, .int .i64 r, .int .i64 s] 25)
    have hown := fw (yy HO2) Z1
    have B3 := aj (yy HB2) Z1
    have hsz := (yy HB2).size
    clear Z1 HO2 HB2
    generalize ax k = Pk at *
    go_wp2_with (at_builtin; refine wpList_append_own _ rfl _ _ 120 rfl w.heap.size 25 i0 (.agg #[.int .i64 0, .int .i64 0, .int .i64 0, .int .i64 0]) 4 32 Tryz.underlying120 hinf hz0 hz1 hz2 rfl (by decide) _ _ _ rfl hown ⟨W2.heap.size, 0, none⟩ 1 1 (cu [(p, q, r, s)]) rfl rfl ?d2 (fun u hu => lm hu) ?d3 ?d4 ?d5 ?_)
    case d2 => first | exact fun j u h => h | exact fL _ _ _
    case d3 => omega
    case d4 => omega
    case d5 => first | omega | (simp; omega)
    intro v7 V7 hown7 hgrow7 _
    have HB8 := yz (uc B3 hown hgrow7 (by simp; omega))
    have HO8 : Hid (V7.ownsRow w.heap.size 25 4 v7 (ax (k + 1)).length (cu (ax (k + 1)))) := yz (by rw [yy HSN, mZ, List.length_append]; exact hown7)
    clear hown7 hgrow7 hown B3 e0 e1 e2 e3
    go_wp2_with fail
    go_roundw
    case rel => exact ⟨k + 1, by omega, by go_num, HO8, HB8⟩
    case measure => simp [intOf] <;> omega
  ·have hke : k = 625 := by omega
   subst hke
   go_wp2_with fail
   go_ret
   exact ⟨⟨_, rfl, yy HO⟩, yy HB⟩
end
section
open Go.RowKit Go.Sort
theorem jt {P : Program} {ops : Array Oper} {o : Oper} {a : Act} {w : World} {K : Act → World → Prop} {Q : Exit → Act → World → Prop} {E : Prop} (hgd : o.guard = none) (s x : Operand) (t : TypeId)
  (ho : o.op = .call { callee := .builtin .append, args := #[s, x], argTypes := #[t, t] })
  (base : Nat) (e : TypeId) (i : TypeInfo) (z : Value) (size bytes : Nat) (ht : P.underlying t = some (.slice e)) (hi : P.info? e = some i) (hz : i.zero = some z)
  (hsize : i.size = size) (hby : i.bytes = bytes) (hzs : z.cells.size = size) (hsz : 0 < size)
  (v : Value) (n : Nat) (xs : List Value) (hs : a.eval s = v) (hown : w.ownsRow base e size v n xs)
  (ad : Addr) (m c : Nat) (news : List Value) (hx : a.eval x = .slice (some ad) m c) (hl : news.length = m * size) (hnews : ∀ j u, news[j]? = some u → w.cell? (ad.add j) = some u) (h1 : ∀ u ∈ news, u.oneCell' = true)
  (h63 : n + m ≤ maxLen) (hbytes : (n + m) * bytes ≤ 140737488355328) (hbase : base ≤ w.heap.size)
  (h : ∀ v' w', w'.ownsRow base e size v' (n + m) (xs ++ news) → w.grownBy w' v.ownBlock → K (a.put o.dst v') w') : if Region.wanted o (yielded ops a.tmps) = true then Oper.wp P o a w K Q else E := by
 have hw : Region.wanted o (yielded ops a.tmps) = true := by simp [Region.wanted, hgd]
 rw [if_pos hw]
 exact wp_append_own w s x t ho base e i z size bytes ht hi hz hsize hby hzs hsz v n xs hs hown ad m c news hx hl hnews h1 h63 hbytes hbase fun v' w' h2 h3 _ => h v' w' h2 h3
theorem dC {w w' : World} {a : Addr} {v : Value} (h : w.cell? a = some v) (hB : Below w.heap.size w w') : w'.cell? a = some v := (hB.cell (World.block_lt_of_cell? w a h)).trans h
theorem bA {w w' : World} {a : Addr} {v : Value} {row : Option Nat} (h : w.cell? a = some v) (hg : w.grownBy w' row) (hne : some a.block ≠ row) : w'.cell? a = some v := (World.cell?_of_block (hg.block a.block (World.block_lt_of_cell? w a h) hne)).trans h
theorem lC : (Tryz.prog.info? 166).map (fun i => (i.zero, i.size, i.bytes)) = some (some (.agg #[.int .i64 0, .int .i64 0, .int .i64 0, .int .i64 0, .int .i64 0, .int .i64 0, .int .i64 0]), 7, 56) := by kernel_rfl
def bJ (S : List Sg) : List Value := S.flatMap sgL
theorem li (A B : List Sg) : bJ (A ++ B) = bJ A ++ bJ B := by unfold bJ; rw [List.flatMap_append]
theorem jX {S : List Sg} {v : Value} (h : v ∈ bJ S) : v.oneCell' = true := by
 unfold bJ at h
 rw [List.mem_flatMap] at h
 obtain ⟨p, _, hp⟩ := h
 simp [sgL] at hp
 rcases hp with rfl | rfl | rfl | rfl | rfl | rfl | rfl <;> rfl
theorem sw : ∀ (S : List Sg) (k : Nat) (b : Sg), S[k]? = some b → ∀ j u, (sgL b)[j]? = some u → (bJ S)[k * 7 + j]? = some u := by
 intro S
 induction S with
 | nil => intro k b h; simp at h
 | cons x S ih =>
  intro k b h j u hu
  have e : bJ (x :: S) = sgL x ++ bJ S := by unfold bJ; simp
  have hj : j < 7 := (List.getElem?_eq_some_iff.1 hu).1
  rw [e]
  cases k with
  | zero =>
   simp at h
   subst h
   rw [List.getElem?_append_left (by show _ < 7; omega)]
   simpa using hu
  | succ k =>
   rw [List.getElem?_append_right (by show 7 ≤ _; omega)]
   rw [show (k + 1) * 7 + j - (sgL x).length = k * 7 + j by show _ - 7 = _; omega]
   exact ih k b (by simpa using h) j u hu
theorem iM {w : World} {B : Nat} {a : Option Addr} {c : Nat} {A : List Sg} (h : w.ownsRow B 166 7 (.slice a A.length c) A.length (bJ A)) : dO w a A A.length := by
 rcases h.2 with ⟨h1, h0⟩ | ⟨g, cap, cur, hv, hb, hg, hnc, hcm, hcs, htake⟩
 ·exact .inl h0
 ·injection hv with e1 e2 e3
  refine .inr ⟨g, 0, e1, (Array.getElem?_eq_some_iff.1 hg).1, fun k hk => ?_⟩
  have hk' : A[k]? = some (sgA A k) := by unfold sgA; rw [List.getD_eq_getElem?_getD, List.getElem?_eq_getElem hk]; rfl
  have cl : ∀ j u, (sgL (sgA A k))[j]? = some u → w.cell? ⟨g, 0 + k * 7 + j, none⟩ = some u := by
   intro j u hu
   have hj : j < 7 := (List.getElem?_eq_some_iff.1 hu).1
   have e := sw A k _ hk' j u hu
   rw [cell_of_row w g _ cur _ _ hg]
   rw [← htake, List.getElem?_take, if_pos (by omega)] at e
   rw [Nat.zero_add]
   simpa using e
  exact ⟨cl 0 _ rfl, cl 1 _ rfl, cl 2 _ rfl, cl 3 _ rfl, cl 4 _ rfl, cl 5 _ rfl, cl 6 _ rfl⟩
theorem rO {w : World} {B : Nat} {a : Option Addr} {c n m : Nat} {t : TypeId} {xs : List Value} (h : w.ownsRow B t m (.slice a n c) n xs) (hm : 0 < m) : n ≤ c := by
 rcases h.2 with ⟨h1, h0⟩ | ⟨g, cap, cur, hv, hb, hg, hnc, hcm, hcs, htake⟩
 ·injection h1 with _ e2 e3
  omega
 ·injection hv with e1 e2 e3
  omega
theorem jp (L : List St) (S : List D3) (ids : List Int) (n : Nat) (ar br ir : Option Addr) (cr dr er : Nat) (p : Addr) (w : World) (hk : aP L = true) (hn : L.length ≤ 1048576) (hcap : L.length ≤ cr) (hc9 : cr ≤ 9223372036854775807) (hm : S.length ≤ 6) (hl : n = S.length) (hS : aI w ar L L.length) (hD : cy w br S S.length) (hI : eN w ir ids n) (hE : bj p w) :
  Calls Tryz.prog 115 #[.slice ar L.length cr, .slice br S.length dr, .slice ir n er] w fun e w' => (∃ v, e = .returned v ∧ w'.ownsRow w.heap.size 166 7 v (aq L S ids n).length (bJ (aq L S ids n))) ∧ Below w.heap.size w w' := by
 obtain ⟨i0, hinf, hz0, hz1, hz2⟩ := info_parts lC
 have hm8 : 1000 ≤ maxLen := by decide +kernel
 have cA := yz (fun (W : World) (id : Int) hW hE => qX L id ar cr p W hn hcap hc9 hW hE)
 have HAT : Hid (∀ id, gO L id = atV L L.length id) := yz (fun id => by unfold gO; rw [if_pos hk])
 have HS := yz hS
 have HD := yz hD
 have HE := yz hE
 have HN := yz (ef L S ids)
 have HLE := yz (fe L S ids)
 have HSO : Hid (∀ i, bp L S ids i = (vA S i, (ids.getD i 0, atV L L.length (ids.getD i 0)))) := yz (fun i => rfl)
 clear hS hD hE hk hcap hc9
 generalize hme : S.length = m at *
 subst hl
 generalize L.length = ln at *
 rcases hI with rfl | ⟨ib, io, rfl, hib, hic⟩
 ·go_enter Tryz.func115, Tryz.ntmps115
  go_wp2_with fail
  refine wp_loop_rounds 1 ?_
  rw [rounds_succ]
  go_wp2_with fail
  go_ret
  exact ⟨⟨_, rfl, World.ownsRow_nil _ _ _ _⟩, Below.refl _ _⟩
 have HIC := yz hic
 clear hic
 go_enter Tryz.func115, Tryz.ntmps115
 go_wp2_with fail
 go_loopw [7, 13] (fun v kk wr => ∃ i : Nat, i ≤ n ∧ kk = .int .i64 i ∧ Hid (wr.ownsRow w.heap.size 166 7 v (aq L S ids i).length (bJ (aq L S ids i))) ∧ Hid (Below w.heap.size w wr)) (fun _ kk _ => n - (intOf kk).toNat)
 case atStart => exact ⟨0, by omega, rfl, yz (World.ownsRow_nil _ _ _ _), yz (Below.refl _ _)⟩
 case round =>
  obtain ⟨i, hi, rfl, HO, HB⟩ := hrel
  by_cases hin : i < n
  ·have hin2 : (i : Int) < (n : Int) := by omega
   have ci : wr.cell? ⟨ib, io + i, none⟩ = some (.int .i64 (ids.getD i 0)) := by rw [(yy HB).cell (p := ⟨ib, io + i, none⟩) hib]; exact yy HIC i hin
   have HSN := yz (yy HN i)
   have HSI := yz (yy HSO i)
   have hle := yy HLE i
   generalize ids.getD i 0 = id at *
   by_cases hid : id = 0
   ·subst hid
    rw [if_neg (by simp), List.append_nil] at HSN
    have HO3 : Hid (wr.ownsRow w.heap.size 166 7 u7 (aq L S ids (i + 1)).length (bJ (aq L S ids (i + 1)))) := yz (by rw [yy HSN]; exact yy HO)
    go_wp2_with fail
    go_roundw
    case rel => exact ⟨i + 1, by omega, by go_num, HO3, HB⟩
    case measure => simp [intOf] <;> omega
   ·have hid' : (id == 0) = false := by simp [hid]
    rw [if_pos hid] at HSN
    rw [yy HSI] at HSN
    clear HSI
    have cA' := yz (fun (W : World) hW hE => yy cA W id hW hE)
    rw [yy HAT id] at cA'
    generalize atV L ln id = q at *
    obtain ⟨q1, q2, q3⟩ := q
    go_wp2_with fail
    refine (yy cA' _ ((yy HS).kept (yy HB)) ((yy HE).kept (yy HB))).mono ?_
    rintro e W1 ⟨rfl, hx⟩
    unfold oX
    simp only
    have HO1 := fw (yy HO) hx
    have HB1 := aj (yy HB) hx
    clear hx HO HB cA'
    have HU : Hid (∀ z, u7.ownBlock = some z → w.heap.size ≤ z ∧ z < W1.heap.size) := yz (fun z e => HO1.lt z e)
    have Z := an W1 (.cells #[.int .i64 id, .int .i64 q1, .int .i64 q2, .int .i64 q3] 80)
    have HO2 := yz (fw HO1 Z)
    have HB2 := yz (aj HB1 Z)
    have N2 := yz (eE W1 (id, q1, q2, q3) 80)
    clear Z HO1 HB1 ci
    go_wp2_with fail
    generalize W1.alloc (.cells #[.int .i64 id, .int .i64 q1, .int .i64 q2, .int .i64 q3] 80) = W2 at HO2 HB2 N2 ⊢
    generalize W1.heap.size = tb at *
    rcases yy HD with h | ⟨bb, bo, rfl, hbb, hbc⟩
    ·omega
    have hst := (hbc i hin).kept hbb (yy HB2)
    clear hbc
    generalize vA S i = sv at *
    obtain ⟨v1, v2, v3⟩ := sv
    obtain ⟨c0, c1, c2⟩ := hst
    obtain ⟨d0, d1, d2, d3⟩ := yy N2
    simp only [Nat.zero_add] at d0 d1 d2 d3
    simp only at c0 c1 c2
    refine wp_region_held_drew (S := (fun w' => (w'.cell? ⟨bb, bo + i * 3, none⟩ = some (.int .i64 v1) ∧ w'.cell? ⟨bb, bo + i * 3 + 1, none⟩ = some (.int .i64 v2) ∧ w'.cell? ⟨bb, bo + i * 3 + 2, none⟩ = some (.int .i64 v3)) ∧ w'.cell? ⟨tb, 0, none⟩ = some (.int .i64 id) ∧ w'.cell? ⟨tb, 1, none⟩ = some (.int .i64 q1) ∧ w'.cell? ⟨tb, 2, none⟩ = some (.int .i64 q2) ∧ w'.cell? ⟨tb, 3, none⟩ = some (.int .i64 q3))) (by kernel_rfl) ?_ (fun hHeld => ?_)
    ·exact ⟨⟨c0, c1, c2⟩, d0, d1, d2, d3⟩
    refine ab 0 rfl ?_
    try simp only [Act.put, ag, ah, ai]
    refine ab 1 rfl ?_
    try simp only [Act.put, ag, ah, ai]
    refine ab 2 rfl ?_
    try simp only [Act.put, ag, ah, ai]
    refine ab 3 rfl ?_
    try simp only [Act.put, ag, ah, ai]
    refine ab 4 rfl ?_
    try simp only [Act.put, ag, ah, ai]
    refine ab 5 rfl ?_
    try simp only [Act.put, ag, ah, ai]
    refine ab 6 rfl ?_
    try simp only [Act.put, ag, ah, ai]
    have HOd : W2.drew.ownsRow w.heap.size 166 7 u7 (aq L S ids i).length (bJ (aq L S ids i)) := yy HO2
    have HBd := (yy HB2).drew
    have hbs : w.heap.size ≤ W2.drew.heap.size := HBd.size
    have hbs2 : w.heap.size ≤ W2.heap.size := hbs
    have c0d : W2.drew.cell? ⟨bb, bo + i * 3, none⟩ = some (.int .i64 v1) := c0
    have c1d : W2.drew.cell? ⟨bb, bo + i * 3 + 1, none⟩ = some (.int .i64 v2) := c1
    have c2d : W2.drew.cell? ⟨bb, bo + i * 3 + 2, none⟩ = some (.int .i64 v3) := c2
    have d0d : W2.drew.cell? ⟨tb, 0, none⟩ = some (.int .i64 id) := d0
    have d1d : W2.drew.cell? ⟨tb, 1, none⟩ = some (.int .i64 q1) := d1
    have d2d : W2.drew.cell? ⟨tb, 2, none⟩ = some (.int .i64 q2) := d2
    have d3d : W2.drew.cell? ⟨tb, 3, none⟩ = some (.int .i64 q3) := d3
    clear c0 c1 c2 d0 d1 d2 d3
    refine ae 7 rfl fun K hK => ?_
    go_simp
    have Z5 := an W2.drew (.cells #[.int .i64 v1, .int .i64 v2, .int .i64 v3, .int .i64 id, .int .i64 q1, .int .i64 q2, .int .i64 q3] 166)
    have hown := fw HOd Z5
    have B5 := aj HBd Z5
    have c0 := dC c0d Z5
    have c1 := dC c1d Z5
    have c2 := dC c2d Z5
    have d0 := dC d0d Z5
    have d1 := dC d1d Z5
    have d2 := dC d2d Z5
    have d3 := dC d3d Z5
    clear Z5 c0d c1d c2d d0d d1d d2d d3d HOd HBd
    refine hK.out _ _ ?_ (fun hHeld3 => ?_)
    ·exact ⟨⟨c0, c1, c2⟩, d0, d1, d2, d3⟩
    clear hK K hHeld
    refine ae 8 rfl fun K hK => ?_
    refine jt rfl _ _ 144 rfl w.heap.size 166 i0 (.agg #[.int .i64 0, .int .i64 0, .int .i64 0, .int .i64 0, .int .i64 0, .int .i64 0, .int .i64 0]) 7 56 Tryz.underlying144 hinf hz0 hz1 hz2 rfl (by decide) _ _ _ rfl hown ⟨W2.drew.heap.size, 0, none⟩ 1 1 (bJ [((v1, v2, v3), (id, q1, q2, q3))]) rfl rfl ?d2 (fun u hu => jX hu) ?d3 ?d4 ?d5 ?_
    case d2 => first | exact fun j u h => h | exact fL _ _ _
    case d3 => omega
    case d4 => omega
    case d5 => first | omega | (simp; omega)
    intro v7 V7 hown7 hgrow7
    have neb : ∀ z, z < w.heap.size ∨ tb ≤ z → some z ≠ u7.ownBlock := fun z hz e => by have := yy HU z e.symm; omega
    have HB8 : Hid (Below w.heap.size w V7) := yz (B5.trans ⟨hgrow7.os, hgrow7.tape, hgrow7.output, hgrow7.size, fun z hz => hgrow7.block z (by simp; omega) (neb z (.inl hz))⟩)
    have c0' := bA c0 hgrow7 (neb _ (.inl hbb))
    have c1' := bA c1 hgrow7 (neb _ (.inl hbb))
    have c2' := bA c2 hgrow7 (neb _ (.inl hbb))
    have d0' := bA d0 hgrow7 (neb _ (.inr (Nat.le_refl _)))
    have d1' := bA d1 hgrow7 (neb _ (.inr (Nat.le_refl _)))
    have d2' := bA d2 hgrow7 (neb _ (.inr (Nat.le_refl _)))
    have d3' := bA d3 hgrow7 (neb _ (.inr (Nat.le_refl _)))
    have HO8 : Hid (V7.ownsRow w.heap.size 166 7 v7 (aq L S ids (i + 1)).length (bJ (aq L S ids (i + 1)))) := yz (by rw [yy HSN, li, List.length_append]; exact hown7)
    clear hown7 hgrow7 hown B5 c0 c1 c2 d0 d1 d2 d3 neb
    refine hK.out _ _ ?_ (fun hHeld4 => ?_)
    ·exact ⟨⟨c0', c1', c2'⟩, d0', d1', d2', d3'⟩
    clear hK K hHeld3
    refine ae 9 rfl fun K hK => ?_
    go_simp
    refine hK.out _ _ ?_ (fun hHeld5 => ?_)
    ·exact ⟨⟨c0', c1', c2'⟩, d0', d1', d2', d3'⟩
    clear hK K hHeld4
    refine wpAnyH_done (by kernel_rfl) ?_ _
    clear c0' c1' c2' d0' d1' d2' d3' hHeld5
    go_wp2_with fail
    go_roundw
    case rel => exact ⟨i + 1, by omega, by go_num, HO8, HB8⟩
    case measure => simp [intOf] <;> omega
  ·have hin' : i = n := by omega
   subst hin'
   go_wp2_with fail
   go_ret
   exact ⟨⟨_, rfl, yy HO⟩, yy HB⟩
end
section
open Go.RowKit Go.Sort
theorem sQ {L : List St} {S : List D3} {ids : List Int} (h : aP L = false) : bg L S ids = false := by unfold bg; rw [h]; rfl
theorem sR {L : List St} {S : List D3} {ids : List Int} (h : aN S = false) : bg L S ids = false := by unfold bg; rw [h, Bool.and_false]; rfl
theorem sS {L : List St} {S : List D3} {ids : List Int} (h : ids.length ≠ S.length) : bg L S ids = false := by unfold bg; rw [decide_eq_false h, Bool.and_false]; rfl
theorem sU {L : List St} {S : List D3} {ids : List Int} (h1 : aP L = true) (h2 : aN S = true) (h3 : ids.length = S.length) : bg L S ids = dA (aq L S ids ids.length) (aq L S ids ids.length).length := by unfold bg; rw [h1, h2, decide_eq_true h3]; rfl
theorem qq {A : List Sg} {n : Nat} (h : ∀ i, i < n → (!fk (sgA A i).2.2 && dt A (sgA A i) i) = true) : dA A n = true := by
 unfold dA
 rw [List.all_eq_true]
 exact fun i hi => h i (List.mem_range.1 hi)
theorem mP {A : List Sg} {n i : Nat} (hi : i < n) (h : (!fk (sgA A i).2.2 && dt A (sgA A i) i) = false) : dA A n = false := by
 unfold dA
 rw [List.all_eq_false]
 exact ⟨i, List.mem_range.2 hi, by rw [h]; simp⟩
theorem lR {w : World} {B : Nat} {a : Option Addr} {c n m : Nat} {t : TypeId} {xs : List Value} (h : w.ownsRow B t m (.slice a n c) n xs) : c ≤ maxLen := by
 rcases h.2 with ⟨h1, h0⟩ | ⟨g, cap, cur, hv, hb, hg, hnc, hcm, hcs, htake⟩
 ·injection h1 with _ e2 e3
  omega
 ·injection hv with e1 e2 e3
  omega
theorem mB (L : List St) (S : List D3) (ids : List Int) (ar br ir : Option Addr) (cr dr er : Nat) (p : Addr) (w : World) (hn : L.length ≤ 1048576) (hcap : L.length ≤ cr) (hc9 : cr ≤ 9223372036854775807) (hn2 : S.length ≤ 1048576) (hcap2 : S.length ≤ dr) (hd9 : dr ≤ 9223372036854775807) (hn3 : ids.length ≤ 1048576) (hS : aI w ar L L.length) (hD : cy w br S S.length) (hI : eN w ir ids ids.length) (hE : bj p w) :
  Calls Tryz.prog 114 #[.slice ar L.length cr, .slice br S.length dr, .slice ir ids.length er] w fun e w' => e = .returned (.bool (bg L S ids)) ∧ Below w.heap.size w w' := by
 have cK := yz (fun (W : World) hW hE => eq L ar cr p W hn hcap hc9 hW hE)
 have cP := yz (fun (W : World) hW => et S br dr W hn2 hcap2 hd9 hW)
 have cO : Hid (aP L = true → S.length ≤ 6 → ids.length = S.length → ∀ W : World, aI W ar L L.length → cy W br S S.length → eN W ir ids ids.length → bj p W → Calls Tryz.prog 115 #[.slice ar L.length cr, .slice br S.length dr, .slice ir ids.length er] W fun e w' => (∃ v, e = .returned v ∧ w'.ownsRow W.heap.size 166 7 v (aq L S ids ids.length).length (bJ (aq L S ids ids.length))) ∧ Below W.heap.size W w') := yz (fun hk hm hl W h1 h2 h3 h4 => jp L S ids ids.length ar br ir cr dr er p W hk hn hcap hc9 hm hl h1 h2 h3 h4)
 have H1 : Hid (aP L = false → bg L S ids = false) := yz sQ
 have H2 : Hid (aN S = false → bg L S ids = false) := yz sR
 have H3 : Hid (ids.length ≠ S.length → bg L S ids = false) := yz sS
 have H4 : Hid (aP L = true → aN S = true → ids.length = S.length → bg L S ids = dA (aq L S ids ids.length) (aq L S ids ids.length).length) := yz sU
 have H6 : Hid (aN S = true → S.length ≤ 6) := yz (fun h => (bm h).1)
 have hAL := fe L S ids ids.length
 have HS := yz hS
 have HD := yz hD
 have HI := yz hI
 have HE := yz hE
 clear hS hD hI hE
 generalize bg L S ids = R at *
 generalize aq L S ids ids.length = A at *
 generalize S.length = m at *
 generalize ids.length = k at *
 generalize L.length = n at *
 go_enter Tryz.func114, Tryz.ntmps114
 go_wp2_with fail
 refine (yy cK _ (yy HS) (yy HE)).mono ?_
 rintro e W1 ⟨rfl, hx⟩
 have B1 := yz hx
 clear hx
 cases hk : aP L
 ·obtain rfl := yy H1 hk
  go_wp2_with fail
  go_ret
  exact ⟨rfl, yy B1⟩
 go_wp2_with fail
 refine (yy cP _ ((yy HD).kept (yy B1))).mono ?_
 rintro e W2 ⟨rfl, hx⟩
 have B2 := yz (aj (yy B1) hx)
 clear hx B1
 cases hp : aN S
 ·obtain rfl := yy H2 hp
  go_wp2_with fail
  go_ret
  exact ⟨rfl, yy B2⟩
 by_cases hl0 : k ≠ m
 ·obtain rfl := yy H3 hl0
  have hl' : ¬ (k : Int) = (m : Int) := by omega
  have hl2 : ((k : Int) == (m : Int)) = false := by simp; omega
  go_wp2_with fail
  go_ret
  exact ⟨rfl, yy B2⟩
 have hl : k = m := Decidable.not_not.1 hl0
 clear hl0
 have HR := yz (yy H4 hk hp hl)
 have hm6 := yy H6 hp
 have cO' := yz (yy cO hk hm6 hl)
 subst hl
 clear hk hp H1 H2 H3 H4 H6 cK cP cO
 go_wp2_with fail
 refine (yy cO' _ ((yy HS).kept (yy B2)) ((yy HD).kept (yy B2)) ((yy HI).kept (yy B2)) ((yy HE).kept (yy B2))).mono ?_
 rintro e W3 ⟨⟨v3, rfl, ho⟩, hx⟩
 obtain ⟨a3, c3, rfl⟩ := ue ho
 have hcap3 := rO ho (by omega)
 have HSG := yz (iM ho)
 have B3 := yz (aj (yy B2) hx)
 have hc39 : c3 ≤ 9223372036854775807 := Nat.le_trans (lR ho) (by decide +kernel)
 clear ho hx B2 cO'
 generalize hal : A.length = al at *
 clear hal
 have cF : Hid (∀ (s : Sg) (i : Nat) (a : Option Addr) (W : World), i ≤ al → dO W a A i → Calls Tryz.prog 124 #[sgV s, .slice a i c3] W fun e w' => e = .returned (.bool (dt A s i)) ∧ Below W.heap.size W w') := yz (fun s i a W hi hs => gB A i s a c3 W (by omega) (by omega) hc39 hs)
 go_wp2_with fail
 rcases yy HSG with h0 | ⟨sb, so, rfl, hsb, hsc⟩
 ·subst h0
  have HY : Hid (R = true) := yz (by rw [yy HR]; rfl)
  refine wp_loop_rounds 1 ?_
  rw [rounds_succ]
  go_wp2_with fail
  go_ret
  exact ⟨by rw [yy HY]; rfl, yy B3⟩
 have HSC := yz hsc
 clear hsc
 have hsb3 : sb < W3.heap.size := hsb
 go_loopw [31] (fun kk wr => ∃ i : Nat, i ≤ al ∧ kk = .int .i64 i ∧ Hid (∀ j, j < i → (!fk (sgA A j).2.2 && dt A (sgA A j) j) = true) ∧ Hid (Below W3.heap.size W3 wr)) (fun kk _ => al - (intOf kk).toNat)
 case atStart => exact ⟨0, by omega, rfl, yz (fun j hj => absurd hj (Nat.not_lt_zero _)), yz (Below.refl _ _)⟩
 case round =>
  obtain ⟨i, hi, rfl, HF, HB⟩ := hrel
  by_cases hin : i < al
  ·have hin2 : (i : Int) < (al : Int) := by omega
   obtain ⟨t, ht⟩ : ∃ t, sgA A i = t := ⟨_, rfl⟩
   have hst := ((yy HSC) i hin).kept (yy HB)
   rw [ht] at hst
   have HT := yz ht
   clear ht
   have HSi : Hid (dO wr (some ⟨sb, so, none⟩) A i) := yz ((((yy HSG).less (Nat.le_of_lt hin))).kept (yy HB))
   have cFi := yz (fun W h => yy cF t i (some ⟨sb, so, none⟩) W (Nat.le_of_lt hin) h)
   have HOK : Hid ((!fk (sgA A i).2.2 && dt A (sgA A i) i) = (!fk t.2.2 && dt A t i)) := yz (by rw [yy HT])
   have Z := an wr (.cells #[.int .i64 t.1.1, .int .i64 t.1.2.1, .int .i64 t.1.2.2, .int .i64 t.2.1, .int .i64 t.2.2.1, .int .i64 t.2.2.2.1, .int .i64 t.2.2.2.2] 166)
   have T1 := eo wr t 166
   have HB1 := yz (aj (yy HB) Z)
   have HS1 := yz ((yy HSi).kept Z)
   clear Z HB HSi
   generalize hfv : dt A t i = fv at *
   clear hfv
   obtain ⟨⟨b1, b2, b3⟩, b4, b5, b6, b7⟩ := t
   have cFj : Hid (∀ (W : World), dO W (some ⟨sb, so, none⟩) A i → Calls Tryz.prog 124 #[.agg #[.int .i64 b1, .int .i64 b2, .int .i64 b3, .int .i64 b4, .int .i64 b5, .int .i64 b6, .int .i64 b7], .slice (some ⟨sb, so, none⟩) i c3] W fun e w' => e = .returned (.bool fv) ∧ Below W.heap.size W w') := cFi
   clear cFi
   have HOK' : Hid ((!fk (sgA A i).2.2 && dt A (sgA A i) i) = (!eqB b5 b6 b7 0 0 0 && fv)) := HOK
   clear HOK
   have he := fun W => nU b5 b6 b7 0 0 0 W
   obtain ⟨c0, c1, c2, c3', c4, c5, c6⟩ := hst
   simp only at c0 c1 c2 c3' c4 c5 c6 T1 HB1 HS1
   go_wp2_with fail
   clear c0 c1 c2 c3' c4 c5 c6
   generalize wr.alloc (.cells #[.int .i64 b1, .int .i64 b2, .int .i64 b3, .int .i64 b4, .int .i64 b5, .int .i64 b6, .int .i64 b7] 166) = W4 at T1 HB1 HS1 ⊢
   generalize wr.heap.size = tb at *
   obtain ⟨x0, x1, x2, x3, x4, x5, x6⟩ := T1
   simp only [Nat.zero_add] at x0 x1 x2 x3 x4 x5 x6
   have r0 := cell_regrown x0
   have r1 := cell_regrown x1
   have r2 := cell_regrown x2
   have r3 := cell_regrown x3
   have r4 := cell_regrown x4
   have r5 := cell_regrown x5
   have r6 := cell_regrown x6
   clear x0 x1 x2 x3 x4 x5 x6
   have hic : (i : Int) ≤ (c3 : Int) := by omega
   cases hz : eqB b5 b6 b7 0 0 0
   ·rw [hz] at he HOK'
    rw [Bool.not_false, Bool.true_and] at HOK'
    refine wp_region_quiet_below (by kernel_rfl) (by kernel_rfl) ?_
    repeat (go_big_quiet_step (first | (with_reducible exact Calls.regrown_of (yy cFj _ ((yy HS1).kept (below_regrown _ _ _))))))
    refine wpQuiet_nil ?_
    intro _ hw'
    obtain ⟨⟨dq, osq⟩, hw''⟩ := hw'
    subst hw''
    have hx := aj (yy HB1) (below_regrown W4 dq osq)
    generalize grow (redrawn W4 dq) osq = W5 at hx ⊢
    have HB5 := yz hx
    clear hx r0 r1 r2 r3 r4 r5 r6 he cFj HS1 HB1
    cases fv
    ·have HNO : Hid (R = false) := yz (by rw [yy HR]; exact mP hin (yy HOK'))
     go_wp2_with fail
     go_ret
     exact ⟨by rw [yy HNO]; rfl, (yy B3).trans ((yy HB5).mono (yy B3).size)⟩
    ·go_wp2_with fail
     go_roundw
     case rel => exact ⟨i + 1, by omega, by go_num, yz (fun l hl => by
      by_cases e : l = i
      ·rw [e]; exact yy HOK'
      ·exact yy HF l (by omega)), HB5⟩
     case measure => simp [intOf] <;> omega
   ·rw [hz] at he HOK'
    have HNO : Hid (R = false) := yz (by rw [yy HR]; exact mP hin (yy HOK'))
    refine wp_region_quiet_below (by kernel_rfl) (by kernel_rfl) ?_
    repeat (go_big_quiet_step (fail))
    refine wpQuiet_nil ?_
    intro _ hw'
    obtain ⟨⟨dq, osq⟩, hw''⟩ := hw'
    subst hw''
    have hx := aj (yy HB1) (below_regrown W4 dq osq)
    generalize grow (redrawn W4 dq) osq = W5 at hx ⊢
    go_wp2_with fail
    go_ret
    exact ⟨by rw [yy HNO]; rfl, (yy B3).trans (hx.mono (yy B3).size)⟩
  ·have hin' : i = al := by omega
   subst hin'
   have HY : Hid (R = true) := yz (by rw [yy HR]; exact qq (yy HF))
   go_wp2_with fail
   go_ret
   exact ⟨by rw [yy HY]; rfl, (yy B3).trans ((yy HB).mono (yy B3).size)⟩
def dG (xs : List Int) : List Value := xs.map (fun z => .int .i64 z)
theorem jE {S : List Int} {v : Value} (h : v ∈ dG S) : v.oneCell' = true := by
 unfold dG at h
 rw [List.mem_map] at h
 obtain ⟨p, _, rfl⟩ := h
 rfl
theorem fM (w : World) (B : Nat) (h : B ≤ w.heap.size) : (w.alloc (.cells #[] 2)).ownsRow B 2 1 (.slice (some ⟨w.heap.size, 0, none⟩) 0 0) 0 (dG []) :=
 ⟨rfl, .inr ⟨_, 0, #[], rfl, h, Array.getElem?_push_size, Nat.le_refl _, Nat.zero_le _, rfl, rfl⟩⟩
theorem ud {w : World} {B B' n m : Nat} {t : TypeId} {v : Value} {xs : List Value} (h : w.ownsRow B t m v n xs) (hb : B' ≤ B) : w.ownsRow B' t m v n xs := by
 obtain ⟨h1, h2⟩ := h
 refine ⟨h1, ?_⟩
 rcases h2 with h2 | ⟨g, cap, cur, e, hg, r⟩
 ·exact .inl h2
 ·exact .inr ⟨g, cap, cur, e, by omega, r⟩
def dE (L : List St) (a b c d : Int) (v : D3) : Nat → Nat
 | 0 => 0
 | k + 1 => dE L a b c d v k + if aW v (apD a b c d (stA L k).2) = true then 1 else 0
def dW (L : List St) (a b c d : Int) (S : List D3) (n : Nat) : Nat → Nat
 | 0 => 0
 | i + 1 => dW L a b c d S n i + dE L a b c d (vA S i) n
theorem gZ (L : List St) (a b c d : Int) (v : D3) : ∀ k, dE L a b c d v k ≤ k
 | 0 => Nat.le_refl _
 | k + 1 => by unfold dE; have := gZ L a b c d v k; split <;> omega
theorem ni (L : List St) (a b c d : Int) (S : List D3) (n : Nat) : ∀ i, dW L a b c d S n i ≤ i * n
 | 0 => Nat.zero_le _
 | i + 1 => by unfold dW; have := ni L a b c d S n i; have := gZ L a b c d (vA S i) n; rw [Nat.succ_mul]; omega
def it (L : List St) (a b c d : Int) (S : List D3) : List Int := S.map (fun v => dv L a b c d v L.length)
theorem tQ (L : List St) (a b c d : Int) (S : List D3) (i : Nat) (hi : i < S.length) : it L a b c d (S.take (i + 1)) = it L a b c d (S.take i) ++ [dv L a b c d (vA S i) L.length] := by
 have e : S.take (i + 1) = S.take i ++ [vA S i] := by
  rw [List.take_succ_eq_append_getElem hi]
  congr 2
  unfold vA
  rw [List.getD_eq_getElem?_getD, List.getElem?_eq_getElem hi]
  rfl
 unfold it
 rw [e, List.map_append]
 rfl
theorem gG (p q : D3) (w : World) (hp : aH 1000000 p.1 p.2.1 p.2.2 = true) (hq : aH 1000000 q.1 q.2.1 q.2.2 = true) :
  Calls Tryz.prog 71 #[.agg #[.int .i64 p.1, .int .i64 p.2.1, .int .i64 p.2.2], .agg #[.int .i64 q.1, .int .i64 q.2.1, .int .i64 q.2.2]] w fun e w' => e = .returned (.bool (aW q p)) ∧ Below w.heap.size w w' := by
 refine (gF _ _ _ _ _ _ w).mono fun e w' h => ?_
 have h2 := pX hp hq
 rw [lZ]
 unfold aW
 rw [← h2]
 exact h
theorem gH (a b c d : Int) (v : D3) (w : World) (ht : aB a b c d = true) (hv : aJ v.1 v.2.1 v.2.2 = true) :
  Calls Tryz.prog 88 #[.agg #[.int .i64 a, .int .i64 b, .int .i64 c, .int .i64 d], .agg #[.int .i64 v.1, .int .i64 v.2.1, .int .i64 v.2.2]] w fun e w' => e = .returned (.agg #[.int .i64 (apD a b c d v).1, .int .i64 (apD a b c d v).2.1, .int .i64 (apD a b c d v).2.2]) ∧ Below w.heap.size w w' :=
 gg a b c d v.1 v.2.1 v.2.2 w (bv.1 ht).1 (kP (gM hv))
theorem jx {x y z : Int} (h : bE x y z = true) : aH 1000000 x y z = true := by
 have h2 := (aR.1 (eL h).1).1
 rw [aO]
 exact h2
theorem oq (L : List St) (S : List D3) (ar br : Option Addr) (cr dr : Nat) (a b c d : Int) (w : World) (hk : aP L = true) (hr : aB a b c d = true) (hp : aN S = true) (hS : aI w ar L L.length) (hD : cy w br S S.length) :
  Calls Tryz.prog 72 #[.slice ar L.length cr, .agg #[.int .i64 a, .int .i64 b, .int .i64 c, .int .i64 d], .slice br S.length dr] w fun e w' => (∃ v, e = .returned (.tuple #[v, .int .i64 (dW L a b c d S L.length S.length : Int)]) ∧ w'.ownsRow w.heap.size 2 1 v (it L a b c d S).length (dG (it L a b c d S))) ∧ Below w.heap.size w w' := by
 obtain ⟨i0, hinf, hz0, hz1, hz2⟩ := info_parts fK
 have hm8 : 1000 ≤ maxLen := by decide +kernel
 have HSM : Hid (∀ j, j < L.length → aJ (stA L j).2.1 (stA L j).2.2.1 (stA L j).2.2.2 = true) := yz (fun j hj => em ((bD hk).2 j hj))
 have HWD : Hid (∀ j, j < S.length → fj (vA S j) = true) := yz (fun j hj => ji ((bm hp).2 j hj))
 have hn12 := (bD hk).1
 have hm6 := (bm hp).1
 have HSN := yz (tQ L a b c d S)
 have HRT := yz hr
 have HS := yz hS
 have HD := yz hD
 have HAL : Hid (it L a b c d (S.take S.length) = it L a b c d S) := yz (by rw [List.take_length])
 clear hS hD hk hr hp
 generalize S.length = m at *
 generalize L.length = n at *
 have T0 := aK w a b c d 25
 have B0 := an w (.cells #[.int .i64 a, .int .i64 b, .int .i64 c, .int .i64 d] 25)
 have e1 : (w.alloc (.cells #[.int .i64 a, .int .i64 b, .int .i64 c, .int .i64 d] 25)).heap.size = w.heap.size + 1 := by simp
 have Z := an (w.alloc (.cells #[.int .i64 a, .int .i64 b, .int .i64 c, .int .i64 d] 25)) (.cells #[] 2)
 have O0 := fM (w.alloc (.cells #[.int .i64 a, .int .i64 b, .int .i64 c, .int .i64 d] 25)) (w.heap.size + 1) (by omega)
 rw [e1] at O0
 have HT := yz (T0.kept T0.lt Z)
 have HB := yz (aj B0 Z)
 have HO := yz O0
 have hlow : w.heap.size + 1 ≤ ((w.alloc (.cells #[.int .i64 a, .int .i64 b, .int .i64 c, .int .i64 d] 25)).alloc (.cells #[] 2)).heap.size := by simp
 clear T0 B0 Z O0 e1
 go_enter Tryz.func72, Tryz.ntmps72
 go_wp2_with fail
 generalize (w.alloc (.cells #[.int .i64 a, .int .i64 b, .int .i64 c, .int .i64 d] 25)).alloc (.cells #[] 2) = W0 at HT HB HO hlow ⊢
 go_loopw [8, 9, 10] (fun v cc kk wr => ∃ i : Nat, i ≤ m ∧ kk = .int .i64 i ∧ cc = .int .i64 (dW L a b c d S n i : Int) ∧ Hid (wr.ownsRow (w.heap.size + 1) 2 1 v (it L a b c d (S.take i)).length (dG (it L a b c d (S.take i)))) ∧ Hid (aG wr w.heap.size a b c d) ∧ Hid (Below w.heap.size w wr) ∧ w.heap.size + 1 ≤ wr.heap.size) (fun _ _ kk _ => m - (intOf kk).toNat)
 case atStart => exact ⟨0, by omega, rfl, rfl, HO, HT, HB, hlow⟩
 case round =>
  clear HO HT HB hlow
  obtain ⟨i, hi, rfl, rfl, HO, HT, HB, hlow⟩ := hrel
  by_cases him : i < m
  ·have him2 : (i : Int) < (m : Int) := by omega
   have hhl := ni L a b c d S n i
   have hhl2 : dW L a b c d S n i ≤ 100 := by have := Nat.mul_le_mul (show i ≤ 6 by omega) hn12; omega
   have hwd := yy HWD i him
   have HHI : Hid (dW L a b c d S n (i + 1) = dW L a b c d S n i + dE L a b c d (vA S i) n) := yz rfl
   have HSI := yz (yy HSN i (by first | exact him | omega))
   rcases yy HD with h | ⟨bb, bo, rfl, hbb, hbc⟩
   ·omega
   have hst := hbc i him
   clear hbc
   obtain ⟨⟨v1, v2, v3⟩, hv⟩ : ∃ v, vA S i = v := ⟨_, rfl⟩
   rw [hv] at hst HHI HSI hwd
   clear hv
   have HVC := yz hst
   clear hst
   generalize dW L a b c d S n i = hc0 at *
   go_wp2_with fail
   go_loopw [9, 11, 12] (fun cc id kk wr => ∃ k : Nat, k ≤ n ∧ kk = .int .i64 k ∧ cc = .int .i64 ((hc0 + dE L a b c d (v1, v2, v3) k : Nat) : Int) ∧ id = .int .i64 (dv L a b c d (v1, v2, v3) k) ∧ Hid (wr.ownsRow (w.heap.size + 1) 2 1 u8 (it L a b c d (S.take i)).length (dG (it L a b c d (S.take i)))) ∧ Hid (aG wr w.heap.size a b c d) ∧ Hid (Below w.heap.size w wr) ∧ w.heap.size + 1 ≤ wr.heap.size) (fun _ _ kk _ => n - (intOf kk).toNat)
   case atStart => exact ⟨0, by omega, rfl, by rfl, rfl, HO, HT, HB, hlow⟩
   case round =>
    clear HO HT HB hlow
    obtain ⟨k, hk, rfl, rfl, rfl, HO, HT, HB, hlow⟩ := hrel
    by_cases hkn : k < n
    ·have hkn2 : (k : Int) < (n : Int) := by omega
     rcases yy HS with h0 | ⟨sb, so, rfl, hsb, hsc⟩
     ·omega
     have hst := (hsc k hkn).kept hsb (yy HB)
     clear hsc
     have hvt := (yy HVC).kept hbb (yy HB)
     have hsm := yy HSM k hkn
     have hhk := gZ L a b c d (v1, v2, v3) k
     have HHK : Hid (dE L a b c d (v1, v2, v3) (k + 1) = dE L a b c d (v1, v2, v3) k + if aW (v1, v2, v3) (apD a b c d (stA L k).2) = true then 1 else 0) := yz rfl
     have HID : Hid (dv L a b c d (v1, v2, v3) (k + 1) = if aW (v1, v2, v3) (apD a b c d (stA L k).2) = true then (stA L k).1 else dv L a b c d (v1, v2, v3) k) := yz rfl
     obtain ⟨⟨s1, s2, s3, s4⟩, hs⟩ : ∃ s, stA L k = s := ⟨_, rfl⟩
     rw [hs] at hst hsm HID HHK
     clear hs
     obtain ⟨c0, c1, c2, c3⟩ := hst
     obtain ⟨d0, d1, d2⟩ := hvt
     obtain ⟨e0, e1, e2, e3⟩ := yy HT
     have HID' : Hid (dv L a b c d (v1, v2, v3) (k + 1) = if aW (v1, v2, v3) (apD a b c d (s2, s3, s4)) = true then s1 else dv L a b c d (v1, v2, v3) k) := HID
     have HHK' : Hid (dE L a b c d (v1, v2, v3) (k + 1) = dE L a b c d (v1, v2, v3) k + if aW (v1, v2, v3) (apD a b c d (s2, s3, s4)) = true then 1 else 0) := HHK
     have cA := yz (fun W => gH a b c d (s2, s3, s4) W (yy HRT) hsm)
     have cS := yz (fun W => gG (apD a b c d (s2, s3, s4)) (v1, v2, v3) W (kU (yy HRT) hsm) (jx hwd))
     clear HID HHK hsm
     generalize apD a b c d (s2, s3, s4) = q at *
     obtain ⟨q1, q2, q3⟩ := q
     generalize aW (v1, v2, v3) (q1, q2, q3) = sm at *
     generalize dE L a b c d (v1, v2, v3) k = hk0 at *
     generalize hiv : dv L a b c d (v1, v2, v3) k = idv at *
     clear hiv
     simp only at cA cS
     have r0 := cell_regrown c0
     have r1 := cell_regrown c1
     have r2 := cell_regrown c2
     have r3 := cell_regrown c3
     have x0 := cell_regrown d0
     have x1 := cell_regrown d1
     have x2 := cell_regrown d2
     have y0 := cell_regrown e0
     have y1 := cell_regrown e1
     have y2 := cell_regrown e2
     have y3 := cell_regrown e3
     have HC0 := yz c0
     clear c0 c1 c2 c3 d0 d1 d2 e0 e1 e2 e3
     go_wp2_with fail
     refine wp_region_quiet_below (by kernel_rfl) (by kernel_rfl) ?_
     repeat (go_big_quiet_step (first | (with_reducible exact Calls.regrown_of (yy cA _)) | (with_reducible exact Calls.regrown_of (yy cS _))))
     refine wpQuiet_nil ?_
     intro _ hw'
     obtain ⟨⟨dq, osq⟩, hw''⟩ := hw'
     subst hw''
     have hx := below_regrown wr dq osq
     have HO3 := yz (fw (yy HO) hx)
     have HT3 := yz ((yy HT).kept (yy HT).lt hx)
     have HB3 := yz (aj (yy HB) hx)
     have hlow3 := Nat.le_trans hlow hx.size
     have c0 := r0 dq osq
     generalize grow (redrawn wr dq) osq = W3 at hx HO3 HT3 HB3 hlow3 c0 ⊢
     clear hx cA cS r0 r1 r2 r3 x0 x1 x2 y0 y1 y2 y3 HO HT HB hlow
     cases sm
     ·rw [if_neg (by simp)] at HID' HHK'
      go_wp2_with fail
      go_roundw
      case rel => exact ⟨k + 1, by omega, by go_num, by rw [yy HHK']; rfl, by rw [yy HID'], HO3, HT3, HB3, hlow3⟩
      case measure => simp [intOf]; omega
     ·rw [if_pos rfl] at HID' HHK'
      go_wp2_with fail
      go_roundw
      case rel => exact ⟨k + 1, by omega, by go_num, by rw [yy HHK']; go_num, by rw [yy HID'], HO3, HT3, HB3, hlow3⟩
      case measure => simp [intOf]; omega
    ·have hkn' : k = n := by omega
     subst hkn'
     have hhk := gZ L a b c d (v1, v2, v3) k
     have HCC : Hid ((hc0 + dE L a b c d (v1, v2, v3) k : Nat) = dW L a b c d S k (i + 1)) := yz (yy HHI).symm
     have hli : (it L a b c d (S.take i)).length ≤ 6 := by unfold it; rw [List.length_map]; have := List.length_take_le i S; omega
     rw [yy HCC]
     generalize dv L a b c d (v1, v2, v3) k = idv at *
     generalize hce : dW L a b c d S k (i + 1) = hcn at *
     have HCE := yz hce
     clear hce
     have Z1 := an wr (.cells #[.int .i64 idv] 2)
     have hown := fw (yy HO) Z1
     have B3 := aj (yy HB) Z1
     have T3 := (yy HT).kept (yy HT).lt Z1
     clear Z1 HO HB HT
     generalize it L a b c d (S.take i) = Pk at *
     go_wp2_with (at_builtin; refine wpList_append_own _ rfl _ _ 44 rfl (w.heap.size + 1) 2 i0 (.int .i64 0) 1 8 Tryz.underlying44 hinf hz0 hz1 hz2 rfl (by decide) _ _ _ rfl hown ⟨wr.heap.size, 0, none⟩ 1 1 (dG [idv]) rfl rfl ?d2 (fun u hu => jE hu) ?d3 ?d4 ?d5 ?_)
     case d2 => first | exact fun j u h => h | exact fL _ _ _
     case d3 => omega
     case d4 => omega
     case d5 => first | omega | (simp; omega)
     intro v7 V7 hown7 hgrow7 _
     have ne : ∀ z, z < w.heap.size + 1 → some z ≠ u8.ownBlock := fun z hz e => by have := (hown.lt z e.symm).1; omega
     have HB8 : Hid (Below w.heap.size w V7) := yz (B3.trans ⟨hgrow7.os, hgrow7.tape, hgrow7.output, hgrow7.size, fun z hz => hgrow7.block z (by simp; omega) (ne z (by omega))⟩)
     have HT8 := yz (T3.same (hgrow7.block w.heap.size (by simp; omega) (ne _ (by omega))))
     have HO8 : Hid (V7.ownsRow (w.heap.size + 1) 2 1 v7 (it L a b c d (S.take (i + 1))).length (dG (it L a b c d (S.take (i + 1))))) := yz (by
      rw [yy HSI, List.length_append]
      unfold dG
      rw [List.map_append]
      exact hown7)
     have hlow8 : w.heap.size + 1 ≤ V7.heap.size := by have := hgrow7.size; simp at this; omega
     clear hown7 hgrow7 hown B3 T3 ne
     go_wp2_with fail
     go_roundw
     case rel => exact ⟨i + 1, by omega, by go_num, by rw [yy HCE], HO8, HT8, HB8, hlow8⟩
     case measure => simp [intOf]; omega
  ·have him' : i = m := by omega
   subst him'
   rw [yy HAL] at HO
   go_wp2_with fail
   exact bodyPost_ret (v := .tuple #[u8, .int .i64 (dW L a b c d S n i : Int)]) (by simp [results, Tryz.results72, go_sem]) rfl ⟨⟨_, rfl, ud (yy HO) (by omega)⟩, yy HB⟩
def tv (w : World) (b o : Nat) (s : Sp) : Prop := w.cell? ⟨b, o, none⟩ = some (.int .i64 s.1.1) ∧ w.cell? ⟨b, o + 1, none⟩ = some (.int .i64 s.1.2) ∧ w.cell? ⟨b, o + 2, none⟩ = some (.int .i64 s.2.1.1) ∧ w.cell? ⟨b, o + 3, none⟩ = some (.int .i64 s.2.1.2.1) ∧ w.cell? ⟨b, o + 4, none⟩ = some (.int .i64 s.2.1.2.2) ∧ w.cell? ⟨b, o + 5, none⟩ = some (.int .i64 s.2.2.1) ∧ w.cell? ⟨b, o + 6, none⟩ = some (.int .i64 s.2.2.2.1) ∧ w.cell? ⟨b, o + 7, none⟩ = some (.int .i64 s.2.2.2.2)
theorem tv.kept {w w' : World} {b o : Nat} {s : Sp} (h : tv w b o s) (hB : Below w.heap.size w w') : tv w' b o s := by
 have hb : b < w.heap.size := World.block_lt_of_cell? w _ h.1
 obtain ⟨h0, h1, h2, h3, h4, h5, h6, h7⟩ := h
 exact ⟨by rw [hB.cell (p := ⟨b, o, none⟩) hb]; exact h0, by rw [hB.cell (p := ⟨b, o + 1, none⟩) hb]; exact h1, by rw [hB.cell (p := ⟨b, o + 2, none⟩) hb]; exact h2, by rw [hB.cell (p := ⟨b, o + 3, none⟩) hb]; exact h3, by rw [hB.cell (p := ⟨b, o + 4, none⟩) hb]; exact h4, by rw [hB.cell (p := ⟨b, o + 5, none⟩) hb]; exact h5, by rw [hB.cell (p := ⟨b, o + 6, none⟩) hb]; exact h6, by rw [hB.cell (p := ⟨b, o + 7, none⟩) hb]; exact h7⟩
theorem wj {L : List St} {i : Nat} (h : dM L i = true) (hi : 0 < i) : (stA L (i - 1)).1 < (stA L i).1 := by
 unfold dM upB at h
 simp only [Bool.and_eq_true, Bool.or_eq_true, decide_eq_true_eq] at h
 omega
theorem lB {L : List St} (h : aP L = true) : ∀ i, i < L.length → ∀ j, j < i → (stA L j).1 < (stA L i).1
 | 0, _, j, hj => absurd hj (Nat.not_lt_zero _)
 | i + 1, hi, j, hj => by
  have hu := wj ((bD h).2 (i + 1) hi) (by omega)
  rw [Nat.add_sub_cancel] at hu
  by_cases e : j = i
  ·subst e; exact hu
  ·have := lB h i (by omega) j (by omega)
   omega
theorem nM {L : List St} (h : aP L = true) {i : Nat} (hi : i < L.length) : atV L L.length (stA L i).1 = (stA L i).2 :=
 qr hi (fun j hj e => by have := lB h i hi j hj; omega) rfl
def tA (L : List T4) (i : Nat) : T4 := L.getD i (0, 0, 0, 0)
theorem tJ : ∀ (S : List T4) (k : Nat) (b : T4), S[k]? = some b → ∀ j u, (nF b)[j]? = some u → (cu S)[k * 4 + j]? = some u := by
 intro S
 induction S with
 | nil => intro k b h; simp at h
 | cons x S ih =>
  intro k b h j u hu
  have e : cu (x :: S) = nF x ++ cu S := by unfold cu; simp
  have hj : j < 4 := (List.getElem?_eq_some_iff.1 hu).1
  rw [e]
  cases k with
  | zero =>
   simp at h
   subst h
   rw [List.getElem?_append_left (by show _ < 4; omega)]
   simpa using hu
  | succ k =>
   rw [List.getElem?_append_right (by show 4 ≤ _; omega)]
   rw [show (k + 1) * 4 + j - (nF x).length = k * 4 + j by show _ - 4 = _; omega]
   exact ih k b (by simpa using h) j u hu
def gx (w : World) (g : Nat) (L : List T4) : Prop := g < w.heap.size ∧ ∀ k, k < L.length → w.cell? ⟨g, k * 4, none⟩ = some (.int .i64 (tA L k).1) ∧ w.cell? ⟨g, k * 4 + 1, none⟩ = some (.int .i64 (tA L k).2.1) ∧ w.cell? ⟨g, k * 4 + 2, none⟩ = some (.int .i64 (tA L k).2.2.1) ∧ w.cell? ⟨g, k * 4 + 3, none⟩ = some (.int .i64 (tA L k).2.2.2)
theorem gx.kept {w w' : World} {g : Nat} {L : List T4} (h : gx w g L) (hB : Below w.heap.size w w') : gx w' g L := by
 refine ⟨Nat.lt_of_lt_of_le h.1 hB.size, fun k hk => ?_⟩
 obtain ⟨h0, h1, h2, h3⟩ := h.2 k hk
 exact ⟨by rw [hB.cell (p := ⟨g, k * 4, none⟩) h.1]; exact h0, by rw [hB.cell (p := ⟨g, k * 4 + 1, none⟩) h.1]; exact h1, by rw [hB.cell (p := ⟨g, k * 4 + 2, none⟩) h.1]; exact h2, by rw [hB.cell (p := ⟨g, k * 4 + 3, none⟩) h.1]; exact h3⟩
theorem nG {w : World} {B : Nat} {v : Value} {L : List T4} (h : w.ownsRow B 25 4 v L.length (cu L)) (h0 : 0 < L.length) : ∃ g c, v = .slice (some ⟨g, 0, none⟩) L.length c ∧ B ≤ g ∧ gx w g L := by
 rcases h.2 with ⟨h1, h0'⟩ | ⟨g, cap, cur, hv, hb, hg, hnc, hcm, hcs, htake⟩
 ·omega
 ·refine ⟨g, cap, hv, hb, (Array.getElem?_eq_some_iff.1 hg).1, fun k hk => ?_⟩
  have hk' : L[k]? = some (tA L k) := by unfold tA; rw [List.getD, List.getElem?_eq_getElem hk]; rfl
  have cl : ∀ j u, (nF (tA L k))[j]? = some u → w.cell? ⟨g, k * 4 + j, none⟩ = some u := by
   intro j u hu
   have hj : j < 4 := (List.getElem?_eq_some_iff.1 hu).1
   have e := tJ L k _ hk' j u hu
   rw [cell_of_row w g _ cur _ _ hg]
   rw [← htake, List.getElem?_take, if_pos (by omega)] at e
   simpa using e
  exact ⟨cl 0 _ rfl, cl 1 _ rfl, cl 2 _ rfl, cl 3 _ rfl⟩
end
section
open Go.RowKit
def cj (t : T4) (s : Sg) : Bool := aW s.1 (apD t.1 t.2.1 t.2.2.1 t.2.2.2 s.2.2)
def bU (A : List Sg) (t : T4) : Bool := A.all (cj t)
theorem tG {A : List Sg} {t : T4} (h : ∀ i, i < A.length → cj t (sgA A i) = true) : bU A t = true := by
 unfold bU
 rw [← fW, List.all_eq_true]
 exact fun i hi => h i (List.mem_range.1 hi)
theorem uI {A : List Sg} {t : T4} {i : Nat} (hi : i < A.length) (h : cj t (sgA A i) = false) : bU A t = false := by
 unfold bU
 rw [← fW, List.all_eq_false]
 exact ⟨i, List.mem_range.2 hi, by rw [h]; simp⟩
def dU (A : List Sg) (T : List T4) : T4 × Int := match T.find? (bU A) with | some t => (t, 0) | none => ((0, 0, 0, 0), 6)
theorem re {T : List T4} {k : Nat} (hk : k < T.length) : T[k]? = some (tA T k) := by unfold tA; rw [List.getD_eq_getElem?_getD, List.getElem?_eq_getElem hk]; rfl
theorem pp {A : List Sg} {T : List T4} {k : Nat} (hk : k < T.length) (h : ∀ j, j < k → bU A (tA T j) = false) (h1 : bU A (tA T k) = true) : dU A T = (tA T k, 0) := by
 unfold dU
 have : T.find? (bU A) = some (tA T k) := by
  rw [List.find?_eq_some_iff_getElem]
  refine ⟨h1, k, hk, ?_, fun j hj => ?_⟩
  ·have := re hk
   rw [List.getElem?_eq_getElem hk] at this
   exact Option.some.inj this
  ·have e := re (T := T) (k := j) (by omega)
   rw [List.getElem?_eq_getElem (by omega)] at e
   rw [Option.some.inj e, h j hj]
   rfl
 rw [this]
theorem lf {A : List Sg} {T : List T4} (h : ∀ j, j < T.length → bU A (tA T j) = false) : dU A T = ((0, 0, 0, 0), 6) := by
 unfold dU
 have : T.find? (bU A) = none := by
  rw [List.find?_eq_none]
  intro x hx
  obtain ⟨j, hj, rfl⟩ := List.getElem_of_mem hx
  have e := re (T := T) (k := j) hj
  rw [List.getElem?_eq_getElem hj] at e
  rw [Option.some.inj e, h j hj]
  simp
 rw [this]
def fZ (L : List St) (S : List D3) (ids : List Int) : T4 × Int :=
 if 400 < L.length ∨ 400 < S.length ∨ 400 < ids.length then ((0, 0, 0, 0), 2)
 else if bg L S ids = true then (if (aq L S ids ids.length).length < 2 then ((0, 0, 0, 0), 10) else dU (aq L S ids ids.length) (ax 625))
 else ((0, 0, 0, 0), 1)
theorem tL {L : List St} {S : List D3} {ids : List Int} (h : 400 < L.length ∨ 400 < S.length ∨ 400 < ids.length) : fZ L S ids = ((0, 0, 0, 0), 2) := by unfold fZ; rw [if_pos h]
theorem tK {L : List St} {S : List D3} {ids : List Int} (h : ¬ (400 < L.length ∨ 400 < S.length ∨ 400 < ids.length)) (h1 : bg L S ids = false) : fZ L S ids = ((0, 0, 0, 0), 1) := by unfold fZ; rw [if_neg h, h1]; rfl
theorem uM {L : List St} {S : List D3} {ids : List Int} (h : ¬ (400 < L.length ∨ 400 < S.length ∨ 400 < ids.length)) (h1 : bg L S ids = true) (h2 : (aq L S ids ids.length).length < 2) : fZ L S ids = ((0, 0, 0, 0), 10) := by unfold fZ; rw [if_neg h, if_pos h1, if_pos h2]
theorem sy {L : List St} {S : List D3} {ids : List Int} (h : ¬ (400 < L.length ∨ 400 < S.length ∨ 400 < ids.length)) (h1 : bg L S ids = true) (h2 : ¬ (aq L S ids ids.length).length < 2) : fZ L S ids = dU (aq L S ids ids.length) (ax 625) := by unfold fZ; rw [if_neg h, if_pos h1, if_neg h2]
theorem ed {L : List St} {S : List D3} {ids : List Int} (h : bg L S ids = true) : aP L = true ∧ aN S = true ∧ ids.length = S.length ∧ dA (aq L S ids ids.length) (aq L S ids ids.length).length = true := by
 unfold bg at h
 simp only [Bool.and_eq_true, decide_eq_true_eq] at h
 exact ⟨h.1.1.1, h.1.1.2, h.1.2, h.2⟩
theorem tf {L : List St} {S : List D3} {ids : List Int} {n i : Nat} (hi : i < (aq L S ids n).length) : ∃ j, j < n ∧ ids.getD j 0 ≠ 0 ∧ sgA (aq L S ids n) i = bp L S ids j := by
 have hm : sgA (aq L S ids n) i ∈ aq L S ids n := by
  unfold sgA
  rw [List.getD_eq_getElem?_getD, List.getElem?_eq_getElem hi]
  exact List.getElem_mem hi
 generalize sgA (aq L S ids n) i = s at hm ⊢
 unfold aq at hm
 rw [List.mem_map] at hm
 obtain ⟨j, hj, rfl⟩ := hm
 rw [List.mem_filter] at hj
 exact ⟨j, List.mem_range.1 hj.1, of_decide_eq_true hj.2, rfl⟩
theorem pZ {L : List St} {S : List D3} {ids : List Int} (h : bg L S ids = true) {i : Nat} (hi : i < (aq L S ids ids.length).length) : aJ (sgA (aq L S ids ids.length) i).2.2.1 (sgA (aq L S ids ids.length) i).2.2.2.1 (sgA (aq L S ids ids.length) i).2.2.2.2 = true := by
 obtain ⟨h1, h2, h3, h4⟩ := ed h
 unfold dA at h4
 have h5 := List.all_eq_true.1 h4 i (List.mem_range.2 hi)
 rw [Bool.and_eq_true] at h5
 obtain ⟨j, hj, h0, e⟩ := tf hi
 rw [e] at h5 ⊢
 exact pg h1 (by have h6 := h5.1; rw [Bool.not_eq_true'] at h6; exact h6)
theorem qL {L : List St} {S : List D3} {ids : List Int} (h : bg L S ids = true) {j : Nat} (hj : j < ids.length) (h0 : ids.getD j 0 ≠ 0) : aJ (atV L L.length (ids.getD j 0)).1 (atV L L.length (ids.getD j 0)).2.1 (atV L L.length (ids.getD j 0)).2.2 = true ∧ fj (vA S j) = true := by
 obtain ⟨h1, h2, h3, h4⟩ := ed h
 rw [← lM] at h4
 unfold eO at h4
 have h5 := List.all_eq_true.1 h4 j (List.mem_range.2 hj)
 rw [decide_eq_false h0, Bool.false_or, Bool.and_eq_true] at h5
 exact ⟨pg h1 (by simpa using h5.1), ji ((bm h2).2 j (by omega))⟩
def eW (L : List St) (S : List D3) (ids : List Int) (t : T4) (n : Nat) : Bool := (List.range n).all fun j => decide (ids.getD j 0 = 0) || cj t (bp L S ids j)
theorem tm (L : List St) (S : List D3) (ids : List Int) (t : T4) (n : Nat) : eW L S ids t n = bU (aq L S ids n) t := (iL L S ids (cj t) n).symm
theorem rj {L : List St} {S : List D3} {ids : List Int} {t : T4} {n j : Nat} (hj : j < n) (h : (decide (ids.getD j 0 = 0) || cj t (bp L S ids j)) = false) : eW L S ids t n = false := by
 unfold eW
 rw [List.all_eq_false]
 exact ⟨j, List.mem_range.2 hj, by rw [h]; simp⟩
theorem qi {L : List St} {S : List D3} {ids : List Int} {t : T4} {n : Nat} (h : ∀ j, j < n → (decide (ids.getD j 0 = 0) || cj t (bp L S ids j)) = true) : eW L S ids t n = true := by
 unfold eW
 rw [List.all_eq_true]
 exact fun j hj => h j (List.mem_range.1 hj)
theorem oL (L : List St) (S : List D3) (ids : List Int) (k : Nat) : (aq L S ids (k + 1)).length = (aq L S ids k).length + if ids.getD k 0 ≠ 0 then 1 else 0 := by
 rw [ef, List.length_append]
 split <;> rfl
theorem ks {m k : Nat} (hk : k < (ax m).length) : aB (tA (ax m) k).1 (tA (ax m) k).2.1 (tA (ax m) k).2.2.1 (tA (ax m) k).2.2.2 = true := by
 have hm : tA (ax m) k ∈ ax m := by unfold tA; rw [List.getD_eq_getElem?_getD, List.getElem?_eq_getElem hk]; exact List.getElem_mem hk
 generalize tA (ax m) k = t at hm ⊢
 unfold ax at hm
 exact (List.mem_filter.1 hm).2
theorem mu : 0 < (ax 625).length := by
 have h : (tOf 624).1 = 2 := by decide +kernel
 have hg : kf (tOf 563) = true := by decide +kernel
 have hm : tOf 563 ∈ ax 625 := by
  unfold ax
  rw [List.mem_filter]
  exact ⟨List.mem_map.2 ⟨563, List.mem_range.2 (by omega), rfl⟩, hg⟩
 exact List.length_pos_of_mem hm
end
section
open Go.RowKit Go.Sort
def pk (x y z cone : Int) : Bool := decide (0 < z) && decide (wrap64 (wrap64 (cone * cone) * bi x y z x y z) ≤ wrap64 (wrap64 (10000 * z) * z))
def rz (s : St) (a b c d cone : Int) : Bool := pk (apX a b c d s.2.1 s.2.2.1 s.2.2.2) (apY a b c d s.2.1 s.2.2.1 s.2.2.2) (apZ a b c d s.2.1 s.2.2.1 s.2.2.2) cone
def bC (L : List St) (a b c d cone : Int) : Nat → List Int
 | 0 => []
 | k + 1 => if rz (stA L k) a b c d cone = true then bC L a b c d cone k ++ [(stA L k).1] else bC L a b c d cone k
def fR (L : List St) (a b c d cone : Int) : List Int := if (aP L && aB a b c d && (decide (0 ≤ cone) && decide (cone ≤ 100))) = true then bC L a b c d cone L.length else []
theorem mb (L : List St) (a b c d cone : Int) (k : Nat) : (bC L a b c d cone k).length ≤ k := by
 induction k with
 | zero => exact Nat.le_refl _
 | succ k ih =>
  unfold bC
  split
  ·simp; exact ih
  ·omega
abbrev mD (xs : List Int) : List Value := xs.map (Value.int .i64)
theorem tR : (Tryz.prog.info? 2).map (fun i => (i.zero, i.size, i.bytes)) = some (some (.int .i64 0), 1, 8) := by kernel_rfl
theorem World.ownsRow_weak {w : World} {B : Nat} {t : TypeId} {v : Value} {n m : Nat} {xs : List Value} (h : w.ownsRow (B + 1) t m v n xs) : w.ownsRow B t m v n xs := by
 obtain ⟨h1, h2⟩ := h
 refine ⟨h1, ?_⟩
 rcases h2 with h2 | ⟨g, cap, cur, e, hb, r⟩
 ·exact .inl h2
 ·exact .inr ⟨g, cap, cur, e, by omega, r⟩
theorem World.ownsRow_less {w : World} {B B' : Nat} {t : TypeId} {v : Value} {n m : Nat} {xs : List Value} (h : w.ownsRow B t m v n xs) (hb : B' ≤ B) : w.ownsRow B' t m v n xs := by
 obtain ⟨h1, h2⟩ := h
 refine ⟨h1, ?_⟩
 rcases h2 with h2 | ⟨g, cap, cur, e, hg, r⟩
 ·exact .inl h2
 ·exact .inr ⟨g, cap, cur, e, by omega, r⟩
theorem lx {B : Nat} {w w1 w2 : World} {v : Value} {t : TypeId} {n m : Nat} {xs : List Value} (h : Below B w w1) (hB : B ≤ w1.heap.size) (ho : w1.ownsRow B t m v n xs) (hg : w1.grownBy w2 v.ownBlock) : Below B w w2 :=
 h.trans ⟨hg.os, hg.tape, hg.output, hg.size, fun k hk => hg.block k (by omega) (fun e => by have := (ho.lt k e.symm).1; omega)⟩
end
section
open Go.RowKit
def cd (w : World) (b : Nat) (p q r s k : Int) : Prop := w.cell? ⟨b, 0, none⟩ = some (.int .i64 p) ∧ w.cell? ⟨b, 1, none⟩ = some (.int .i64 q) ∧ w.cell? ⟨b, 2, none⟩ = some (.int .i64 r) ∧ w.cell? ⟨b, 3, none⟩ = some (.int .i64 s) ∧ w.cell? ⟨b, 4, none⟩ = some (.int .i64 k)
def fm (w : World) (b : Nat) : Prop := w.frozen? ⟨b, 0, none⟩ = false ∧ w.frozen? ⟨b, 1, none⟩ = false ∧ w.frozen? ⟨b, 2, none⟩ = false ∧ w.frozen? ⟨b, 3, none⟩ = false ∧ w.frozen? ⟨b, 4, none⟩ = false
theorem cd.lt {w : World} {b : Nat} {p q r s k : Int} (h : cd w b p q r s k) : b < w.heap.size := World.block_lt_of_cell? w _ h.1
theorem cd.kept {w w' : World} {b : Nat} {p q r s k : Int} (h : cd w b p q r s k) (hB : Below w.heap.size w w') : cd w' b p q r s k := by
 have hb := h.lt
 obtain ⟨h0, h1, h2, h3, h4⟩ := h
 exact ⟨by rw [hB.cell (p := ⟨b, 0, none⟩) hb]; exact h0, by rw [hB.cell (p := ⟨b, 1, none⟩) hb]; exact h1, by rw [hB.cell (p := ⟨b, 2, none⟩) hb]; exact h2, by rw [hB.cell (p := ⟨b, 3, none⟩) hb]; exact h3, by rw [hB.cell (p := ⟨b, 4, none⟩) hb]; exact h4⟩
theorem fm.kept {w w' : World} {b : Nat} (h : fm w b) (hb : b < w.heap.size) (hB : Below w.heap.size w w') : fm w' b := by
 obtain ⟨h0, h1, h2, h3, h4⟩ := h
 exact ⟨by rw [hB.frozen (p := ⟨b, 0, none⟩) hb]; exact h0, by rw [hB.frozen (p := ⟨b, 1, none⟩) hb]; exact h1, by rw [hB.frozen (p := ⟨b, 2, none⟩) hb]; exact h2, by rw [hB.frozen (p := ⟨b, 3, none⟩) hb]; exact h3, by rw [hB.frozen (p := ⟨b, 4, none⟩) hb]; exact h4⟩
theorem cg (w : World) (p q r s k : Int) (t : TypeId) : cd (w.alloc (.cells #[.int .i64 p, .int .i64 q, .int .i64 r, .int .i64 s, .int .i64 k] t)) w.heap.size p q r s k := by
 refine ⟨?_, ?_, ?_, ?_, ?_⟩ <;> simp
theorem eX (w : World) (p q r s k : Int) (t : TypeId) : fm (w.alloc (.cells #[.int .i64 p, .int .i64 q, .int .i64 r, .int .i64 s, .int .i64 k] t)) w.heap.size := by
 refine ⟨?_, ?_, ?_, ?_, ?_⟩ <;> simp
theorem cd.alloc {w : World} {b : Nat} {p q r s k : Int} (h : cd w b p q r s k) (o : Obj) : cd (w.alloc o) b p q r s k := h.kept (an _ _)
end
end Go.Proofs.YtgiodlllokdcdaaGreatDoor
