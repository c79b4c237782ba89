/- Several texts in one: TsA, NaB, NaC, MaB, TsD, TfM, TurnD. -/
import Derived.OwnWalk
import Derived.Laws.OwnMore
import Derived.Deep.RegionHeld
import Derived.WalkMore
import Derived.Test.YtgiodlllokdcdaaGreatDoorQFnModeOwn5
import Derived.Test.YtgiodlllokdcdaaGreatDoorQFnModeOwn4
import Derived.Test.YtgiodlllokdcdaaGreatDoorQFnModeOwn1
import Derived.Test.YtgiodlllokdcdaaGreatDoorQFnModeOwn3
namespace Go.Proofs.YtgiodlllokdcdaaGreatDoor
set_option linter.unusedVariables false
set_option linter.unusedSimpArgs false
set_option maxRecDepth 100000
set_option maxHeartbeats 8000000
section
open Go.RowKit Go.Sort
theorem fD {w w' : World} {B : Nat} {t : TypeId} {v : Value} {n m : Nat} {xs : List Value} (h : w.ownsRow B t m v n xs) (hB : Below w.heap.size w w') : w'.ownsRow B t m v n xs :=
 h.kept (row := none) ⟨hB.os, hB.tape, hB.output, hB.size, fun k hk _ => hB.block k hk⟩ (by cases hv : v.ownBlock <;> simp)
theorem tS {w : World} {B : Nat} {t : TypeId} {v : Value} {n m : Nat} {xs : List Value} (h : w.ownsRow B t m v n xs) : ∃ a c, v = .slice a n c := by
 rcases h.2 with ⟨h1, h0⟩ | ⟨g, cap, cur, hv, _⟩
 ·exact ⟨none, 0, by rw [h1, h0]⟩
 ·exact ⟨_, _, hv⟩
theorem tQ {B : Nat} {w w1 w2 : World} {v : Value} {t : TypeId} {n m : Nat} {xs : List Value} (h : Below B w w1) (ho : w1.ownsRow B t m v n xs) (hg : w1.grownBy w2 v.ownBlock) (hB : B ≤ w1.heap.size) : Below B w w2 :=
 h.trans ⟨hg.os, hg.tape, hg.output, hg.size, fun k hk => hg.block k (by omega) (fun e => by have := (ho.lt k e.symm).1; omega)⟩
theorem fP (w : World) (vs : List Value) (t : TypeId) : ∀ (j : Nat) (u : Value), vs[j]? = some u → (w.alloc (.cells vs.toArray t)).cell? ((⟨w.heap.size, 0, none⟩ : Addr).add j) = some u := by
 intro j u hj
 have e : (⟨w.heap.size, 0, none⟩ : Addr).add j = ⟨w.heap.size, j, none⟩ := by cases j <;> simp [Addr.add]
 rw [e]
 simp [hj]
abbrev T4 := Int × Int × Int × Int
theorem nA : (Tryz.prog.info? 25).map (fun i => (i.zero, i.size, i.bytes)) = some (some (.agg #[.int .i64 0, .int .i64 0, .int .i64 0, .int .i64 0]), 4, 32) := by kernel_rfl
def nP (t : T4) : List Value := [.int .i64 t.1, .int .i64 t.2.1, .int .i64 t.2.2.1, .int .i64 t.2.2.2]
def cH (S : List T4) : List Value := S.flatMap nP
theorem np (A B : List T4) : cH (A ++ B) = cH A ++ cH B := by unfold cH; rw [List.flatMap_append]
theorem lE {S : List T4} {v : Value} (h : v ∈ cH S) : v.oneCell' = true := by
 unfold cH at h
 rw [List.mem_flatMap] at h
 obtain ⟨p, _, hp⟩ := h
 simp [nP] at hp
 rcases hp with rfl | rfl | rfl | rfl <;> rfl
def tOf (n : Nat) : T4 := ((n : Int) / 125 - 2, (n : Int) / 25 % 5 - 2, (n : Int) / 5 % 5 - 2, (n : Int) % 5 - 2)
def kA (t : T4) : Bool := aC t.1 t.2.1 t.2.2.1 t.2.2.2
def az (k : Nat) : List T4 := ((List.range k).map tOf).filter kA
theorem iE (k : Nat) : (az k).length ≤ k := by
 have h := List.length_filter_le kA ((List.range k).map tOf)
 rw [List.length_map, List.length_range] at h
 exact h
theorem mC (k : Nat) : az (k + 1) = az k ++ (if kA (tOf k) = true then [tOf k] else []) := by
 unfold az
 rw [List.range_succ, List.map_append, List.filter_append]
 congr 1
 cases h : kA (tOf k)
 ·rw [List.map_singleton, List.filter_cons_of_neg (by simp [h])]; rfl
 ·rw [List.map_singleton, List.filter_cons_of_pos h]; rfl
theorem vF (a b c d : Nat) (hb : b < 5) (hc : c < 5) (hd : d < 5) : tOf (a * 125 + b * 25 + c * 5 + d) = ((a : Int) - 2, (b : Int) - 2, (c : Int) - 2, (d : Int) - 2) := by
 unfold tOf
 have e1 : ((a * 125 + b * 25 + c * 5 + d : Nat) : Int) / 125 = a := by omega
 have e2 : ((a * 125 + b * 25 + c * 5 + d : Nat) : Int) / 25 % 5 = b := by omega
 have e3 : ((a * 125 + b * 25 + c * 5 + d : Nat) : Int) / 5 % 5 = c := by omega
 have e4 : ((a * 125 + b * 25 + c * 5 + d : Nat) : Int) % 5 = d := by omega
 rw [e1, e2, e3, e4]
theorem sQ (w : World) (B : Nat) (h : B ≤ w.heap.size) : (w.alloc (.cells #[] 25)).ownsRow B 25 4 (.slice (some ⟨w.heap.size, 0, none⟩) 0 0) 0 (cH []) :=
 ⟨rfl, .inr ⟨_, 0, #[], rfl, h, Array.getElem?_push_size, Nat.le_refl _, Nat.zero_le _, rfl, rfl⟩⟩
theorem mN (w : World) :
  Calls Tryz.prog 116 #[] w fun e w' => (∃ v, e = .returned v ∧ w'.ownsRow w.heap.size 25 4 v (az 625).length (cH (az 625))) ∧ Below w.heap.size w w' := by
 obtain ⟨i0, hinf, hz0, hz1, hz2⟩ := info_parts nA
 have hm8 : 1000 ≤ maxLen := by decide +kernel
 go_enter Tryz.func116, Tryz.ntmps116
 go_wp2_with fail
 go_loopw [1, 4] (fun v kk wr => ∃ k : Nat, k ≤ 625 ∧ kk = .int .i64 k ∧ Hid (wr.ownsRow w.heap.size 25 4 v (az k).length (cH (az k))) ∧ Hid (Below w.heap.size w wr)) (fun _ kk _ => 625 - (intOf kk).toNat)
 case atStart => exact ⟨0, by omega, rfl, yz (World.ownsRow_nil _ _ _ _), yz (Below.refl _ _)⟩
 case round =>
  obtain ⟨k, hk, rfl, HO, HB⟩ := hrel
  by_cases hkn : k < 625
  ·have hkn2 : (k : Int) < 625 := by omega
   have HSN : Hid (az (k + 1) = az k ++ (if kA ((k : Int) / 125 - 2, (k : Int) / 25 % 5 - 2, (k : Int) / 5 % 5 - 2, (k : Int) % 5 - 2) = true then [((k : Int) / 125 - 2, (k : Int) / 25 % 5 - 2, (k : Int) / 5 % 5 - 2, (k : Int) % 5 - 2)] else [])) := yz (mC k)
   have hpl := iE k
   have Z := an wr (.cells #[.int .i64 ((k : Int) / 125 - 2), .int .i64 ((k : Int) / 25 % 5 - 2), .int .i64 ((k : Int) / 5 % 5 - 2), .int .i64 ((k : Int) % 5 - 2)] 25)
   have HB1 := yz (aj (yy HB) Z)
   have HO1 := yz (fD (yy HO) Z)
   have TA1 := aO wr ((k : Int) / 125 - 2) ((k : Int) / 25 % 5 - 2) ((k : Int) / 5 % 5 - 2) ((k : Int) % 5 - 2) 25
   clear Z HO HB
   go_wp2_with fail
   generalize (k : Int) / 125 - 2 = p at *
   generalize (k : Int) / 25 % 5 - 2 = q at *
   generalize (k : Int) / 5 % 5 - 2 = r at *
   generalize (k : Int) % 5 - 2 = s at *
   generalize wr.alloc (.cells #[.int .i64 p, .int .i64 q, .int .i64 r, .int .i64 s] 25) = W1 at HB1 HO1 TA1 ⊢
   refine (bw p q r s _).mono ?_
   rintro e W2 ⟨rfl, hx⟩
   have TA2 := TA1.kept TA1.lt hx
   have HB2 := yz (aj (yy HB1) hx)
   have HO2 := yz (fD (yy HO1) hx)
   clear hx TA1 HB1 HO1
   have HG : Hid (kA (p, q, r, s) = aC p q r s) := yz rfl
   generalize wr.heap.size = tb at *
   cases hr : aC p q r s
   ·rw [hr] at HG
    rw [yy HG, if_neg (by simp), List.append_nil] at HSN
    have HO3 : Hid (W2.ownsRow w.heap.size 25 4 u1 (az (k + 1)).length (cH (az (k + 1)))) := yz (by rw [yy HSN]; exact yy HO2)
    go_wp2_with fail
    go_roundw
    case rel => exact ⟨k + 1, by omega, by go_num, HO3, HB2⟩
    case measure => simp [intOf] <;> omega
   ·rw [hr] at HG
    rw [yy HG, if_pos rfl] at HSN
    obtain ⟨e0, e1, e2, e3⟩ := TA2
    have Z1 := an W2 (.cells #[.int .i64 p, .int .i64 q, .int .i64 r, .int .i64 s] 25)
    have hown := fD (yy HO2) Z1
    have B3 := aj (yy HB2) Z1
    have hsz := (yy HB2).size
    clear Z1 HO2 HB2
    generalize az k = Pk at *
    go_wp2_with (at_builtin; refine wpList_append_own _ rfl _ _ 120 rfl w.heap.size 25 i0 (.agg #[.int .i64 0, .int .i64 0, .int .i64 0, .int .i64 0]) 4 32 Tryz.underlying120 hinf hz0 hz1 hz2 rfl (by decide) _ _ _ rfl hown ⟨W2.heap.size, 0, none⟩ 1 1 (cH [(p, q, r, s)]) rfl rfl ?d2 (fun u hu => lE hu) ?d3 ?d4 ?d5 ?_)
    case d2 => first | exact fun j u h => h | exact fP _ _ _
    case d3 => omega
    case d4 => omega
    case d5 => first | omega | (simp; omega)
    intro v7 V7 hown7 hgrow7 _
    have HB8 := yz (tQ B3 hown hgrow7 (by simp; omega))
    have HO8 : Hid (V7.ownsRow w.heap.size 25 4 v7 (az (k + 1)).length (cH (az (k + 1)))) := yz (by rw [yy HSN, np, List.length_append]; exact hown7)
    clear hown7 hgrow7 hown B3 e0 e1 e2 e3
    go_wp2_with fail
    go_roundw
    case rel => exact ⟨k + 1, by omega, by go_num, HO8, HB8⟩
    case measure => simp [intOf] <;> omega
  ·have hke : k = 625 := by omega
   subst hke
   go_wp2_with fail
   go_ret
   exact ⟨⟨_, rfl, yy HO⟩, yy HB⟩
end
section
open Go.RowKit Go.Sort
theorem jK {P : Program} {ops : Array Oper} {o : Oper} {a : Act} {w : World} {K : Act → World → Prop} {Q : Exit → Act → World → Prop} {E : Prop} (hgd : o.guard = none) (s x : Operand) (t : TypeId)
  (ho : o.op = .call { callee := .builtin .append, args := #[s, x], argTypes := #[t, t] })
  (base : Nat) (e : TypeId) (i : TypeInfo) (z : Value) (size bytes : Nat) (ht : P.underlying t = some (.slice e)) (hi : P.info? e = some i) (hz : i.zero = some z)
  (hsize : i.size = size) (hby : i.bytes = bytes) (hzs : z.cells.size = size) (hsz : 0 < size)
  (v : Value) (n : Nat) (xs : List Value) (hs : a.eval s = v) (hown : w.ownsRow base e size v n xs)
  (ad : Addr) (m c : Nat) (news : List Value) (hx : a.eval x = .slice (some ad) m c) (hl : news.length = m * size) (hnews : ∀ j u, news[j]? = some u → w.cell? (ad.add j) = some u) (h1 : ∀ u ∈ news, u.oneCell' = true)
  (h63 : n + m ≤ maxLen) (hbytes : (n + m) * bytes ≤ 140737488355328) (hbase : base ≤ w.heap.size)
  (h : ∀ v' w', w'.ownsRow base e size v' (n + m) (xs ++ news) → w.grownBy w' v.ownBlock → K (a.put o.dst v') w') : if Region.wanted o (yielded ops a.tmps) = true then Oper.wp P o a w K Q else E := by
 have hw : Region.wanted o (yielded ops a.tmps) = true := by simp [Region.wanted, hgd]
 rw [if_pos hw]
 exact wp_append_own w s x t ho base e i z size bytes ht hi hz hsize hby hzs hsz v n xs hs hown ad m c news hx hl hnews h1 h63 hbytes hbase fun v' w' h2 h3 _ => h v' w' h2 h3
theorem dE {w w' : World} {a : Addr} {v : Value} (h : w.cell? a = some v) (hB : Below w.heap.size w w') : w'.cell? a = some v := (hB.cell (World.block_lt_of_cell? w a h)).trans h
theorem bD {w w' : World} {a : Addr} {v : Value} {row : Option Nat} (h : w.cell? a = some v) (hg : w.grownBy w' row) (hne : some a.block ≠ row) : w'.cell? a = some v := (World.cell?_of_block (hg.block a.block (World.block_lt_of_cell? w a h) hne)).trans h
theorem lM : (Tryz.prog.info? 166).map (fun i => (i.zero, i.size, i.bytes)) = some (some (.agg #[.int .i64 0, .int .i64 0, .int .i64 0, .int .i64 0, .int .i64 0, .int .i64 0, .int .i64 0]), 7, 56) := by kernel_rfl
def bK (S : List Sg) : List Value := S.flatMap sgL
theorem lA (A B : List Sg) : bK (A ++ B) = bK A ++ bK B := by unfold bK; rw [List.flatMap_append]
theorem ku {S : List Sg} {v : Value} (h : v ∈ bK S) : v.oneCell' = true := by
 unfold bK at h
 rw [List.mem_flatMap] at h
 obtain ⟨p, _, hp⟩ := h
 simp [sgL] at hp
 rcases hp with rfl | rfl | rfl | rfl | rfl | rfl | rfl <;> rfl
theorem sf : ∀ (S : List Sg) (k : Nat) (b : Sg), S[k]? = some b → ∀ j u, (sgL b)[j]? = some u → (bK S)[k * 7 + j]? = some u := by
 intro S
 induction S with
 | nil => intro k b h; simp at h
 | cons x S ih =>
  intro k b h j u hu
  have e : bK (x :: S) = sgL x ++ bK S := by unfold bK; simp
  have hj : j < 7 := (List.getElem?_eq_some_iff.1 hu).1
  rw [e]
  cases k with
  | zero =>
   simp at h
   subst h
   rw [List.getElem?_append_left (by show _ < 7; omega)]
   simpa using hu
  | succ k =>
   rw [List.getElem?_append_right (by show 7 ≤ _; omega)]
   rw [show (k + 1) * 7 + j - (sgL x).length = k * 7 + j by show _ - 7 = _; omega]
   exact ih k b (by simpa using h) j u hu
theorem iY {w : World} {B : Nat} {a : Option Addr} {c : Nat} {A : List Sg} (h : w.ownsRow B 166 7 (.slice a A.length c) A.length (bK A)) : dQ w a A A.length := by
 rcases h.2 with ⟨h1, h0⟩ | ⟨g, cap, cur, hv, hb, hg, hnc, hcm, hcs, htake⟩
 ·exact .inl h0
 ·injection hv with e1 e2 e3
  refine .inr ⟨g, 0, e1, (Array.getElem?_eq_some_iff.1 hg).1, fun k hk => ?_⟩
  have hk' : A[k]? = some (sgA A k) := by unfold sgA; rw [List.getD_eq_getElem?_getD, List.getElem?_eq_getElem hk]; rfl
  have cl : ∀ j u, (sgL (sgA A k))[j]? = some u → w.cell? ⟨g, 0 + k * 7 + j, none⟩ = some u := by
   intro j u hu
   have hj : j < 7 := (List.getElem?_eq_some_iff.1 hu).1
   have e := sf A k _ hk' j u hu
   rw [cell_of_row w g _ cur _ _ hg]
   rw [← htake, List.getElem?_take, if_pos (by omega)] at e
   rw [Nat.zero_add]
   simpa using e
  exact ⟨cl 0 _ rfl, cl 1 _ rfl, cl 2 _ rfl, cl 3 _ rfl, cl 4 _ rfl, cl 5 _ rfl, cl 6 _ rfl⟩
theorem rH {w : World} {B : Nat} {a : Option Addr} {c n m : Nat} {t : TypeId} {xs : List Value} (h : w.ownsRow B t m (.slice a n c) n xs) (hm : 0 < m) : n ≤ c := by
 rcases h.2 with ⟨h1, h0⟩ | ⟨g, cap, cur, hv, hb, hg, hnc, hcm, hcs, htake⟩
 ·injection h1 with _ e2 e3
  omega
 ·injection hv with e1 e2 e3
  omega
theorem jE (L : List St) (S : List D3) (ids : List Int) (n : Nat) (ar br ir : Option Addr) (cr dr er : Nat) (p : Addr) (w : World) (hk : aT L = true) (hn : L.length ≤ 1048576) (hcap : L.length ≤ cr) (hc9 : cr ≤ 9223372036854775807) (hm : S.length ≤ 6) (hl : n = S.length) (hS : aH w ar L L.length) (hD : co w br S S.length) (hI : eP w ir ids n) (hE : aY p w) :
  Calls Tryz.prog 115 #[.slice ar L.length cr, .slice br S.length dr, .slice ir n er] w fun e w' => (∃ v, e = .returned v ∧ w'.ownsRow w.heap.size 166 7 v (au L S ids n).length (bK (au L S ids n))) ∧ Below w.heap.size w w' := by
 obtain ⟨i0, hinf, hz0, hz1, hz2⟩ := info_parts lM
 have hm8 : 1000 ≤ maxLen := by decide +kernel
 have cA := yz (fun (W : World) (id : Int) hW hE => qY L id ar cr p W hn hcap hc9 hW hE)
 have HAT : Hid (∀ id, qj L id = atV L L.length id) := yz (fun id => by unfold qj; rw [if_pos hk])
 have HS := yz hS
 have HD := yz hD
 have HE := yz hE
 have HN := yz (ef L S ids)
 have HLE := yz (fl L S ids)
 have HSO : Hid (∀ i, bn L S ids i = (vA S i, (ids.getD i 0, atV L L.length (ids.getD i 0)))) := yz (fun i => rfl)
 clear hS hD hE hk hcap hc9
 generalize hme : S.length = m at *
 subst hl
 generalize L.length = ln at *
 rcases hI with rfl | ⟨ib, io, rfl, hib, hic⟩
 ·go_enter Tryz.func115, Tryz.ntmps115
  go_wp2_with fail
  refine wp_loop_rounds 1 ?_
  rw [rounds_succ]
  go_wp2_with fail
  go_ret
  exact ⟨⟨_, rfl, World.ownsRow_nil _ _ _ _⟩, Below.refl _ _⟩
 have HIC := yz hic
 clear hic
 go_enter Tryz.func115, Tryz.ntmps115
 go_wp2_with fail
 go_loopw [7, 13] (fun v kk wr => ∃ i : Nat, i ≤ n ∧ kk = .int .i64 i ∧ Hid (wr.ownsRow w.heap.size 166 7 v (au L S ids i).length (bK (au L S ids i))) ∧ Hid (Below w.heap.size w wr)) (fun _ kk _ => n - (intOf kk).toNat)
 case atStart => exact ⟨0, by omega, rfl, yz (World.ownsRow_nil _ _ _ _), yz (Below.refl _ _)⟩
 case round =>
  obtain ⟨i, hi, rfl, HO, HB⟩ := hrel
  by_cases hin : i < n
  ·have hin2 : (i : Int) < (n : Int) := by omega
   have ci : wr.cell? ⟨ib, io + i, none⟩ = some (.int .i64 (ids.getD i 0)) := by rw [(yy HB).cell (p := ⟨ib, io + i, none⟩) hib]; exact yy HIC i hin
   have HSN := yz (yy HN i)
   have HSI := yz (yy HSO i)
   have hle := yy HLE i
   generalize ids.getD i 0 = id at *
   by_cases hid : id = 0
   ·subst hid
    rw [if_neg (by simp), List.append_nil] at HSN
    have HO3 : Hid (wr.ownsRow w.heap.size 166 7 u7 (au L S ids (i + 1)).length (bK (au L S ids (i + 1)))) := yz (by rw [yy HSN]; exact yy HO)
    go_wp2_with fail
    go_roundw
    case rel => exact ⟨i + 1, by omega, by go_num, HO3, HB⟩
    case measure => simp [intOf] <;> omega
   ·have hid' : (id == 0) = false := by simp [hid]
    rw [if_pos hid] at HSN
    rw [yy HSI] at HSN
    clear HSI
    have cA' := yz (fun (W : World) hW hE => yy cA W id hW hE)
    rw [yy HAT id] at cA'
    generalize atV L ln id = q at *
    obtain ⟨q1, q2, q3⟩ := q
    go_wp2_with fail
    refine (yy cA' _ ((yy HS).kept (yy HB)) ((yy HE).kept (yy HB))).mono ?_
    rintro e W1 ⟨rfl, hx⟩
    unfold rl
    simp only
    have HO1 := fD (yy HO) hx
    have HB1 := aj (yy HB) hx
    clear hx HO HB cA'
    have HU : Hid (∀ z, u7.ownBlock = some z → w.heap.size ≤ z ∧ z < W1.heap.size) := yz (fun z e => HO1.lt z e)
    have Z := an W1 (.cells #[.int .i64 id, .int .i64 q1, .int .i64 q2, .int .i64 q3] 80)
    have HO2 := yz (fD HO1 Z)
    have HB2 := yz (aj HB1 Z)
    have N2 := yz (eH W1 (id, q1, q2, q3) 80)
    clear Z HO1 HB1 ci
    go_wp2_with fail
    generalize W1.alloc (.cells #[.int .i64 id, .int .i64 q1, .int .i64 q2, .int .i64 q3] 80) = W2 at HO2 HB2 N2 ⊢
    generalize W1.heap.size = tb at *
    rcases yy HD with h | ⟨bb, bo, rfl, hbb, hbc⟩
    ·omega
    have hst := (hbc i hin).kept hbb (yy HB2)
    clear hbc
    generalize vA S i = sv at *
    obtain ⟨v1, v2, v3⟩ := sv
    obtain ⟨c0, c1, c2⟩ := hst
    obtain ⟨d0, d1, d2, d3⟩ := yy N2
    simp only [Nat.zero_add] at d0 d1 d2 d3
    simp only at c0 c1 c2
    refine wp_region_held_drew (S := (fun w' => (w'.cell? ⟨bb, bo + i * 3, none⟩ = some (.int .i64 v1) ∧ w'.cell? ⟨bb, bo + i * 3 + 1, none⟩ = some (.int .i64 v2) ∧ w'.cell? ⟨bb, bo + i * 3 + 2, none⟩ = some (.int .i64 v3)) ∧ w'.cell? ⟨tb, 0, none⟩ = some (.int .i64 id) ∧ w'.cell? ⟨tb, 1, none⟩ = some (.int .i64 q1) ∧ w'.cell? ⟨tb, 2, none⟩ = some (.int .i64 q2) ∧ w'.cell? ⟨tb, 3, none⟩ = some (.int .i64 q3))) (by kernel_rfl) ?_ (fun hHeld => ?_)
    ·exact ⟨⟨c0, c1, c2⟩, d0, d1, d2, d3⟩
    refine ab 0 rfl ?_
    try simp only [Act.put, ag, ah, ai]
    refine ab 1 rfl ?_
    try simp only [Act.put, ag, ah, ai]
    refine ab 2 rfl ?_
    try simp only [Act.put, ag, ah, ai]
    refine ab 3 rfl ?_
    try simp only [Act.put, ag, ah, ai]
    refine ab 4 rfl ?_
    try simp only [Act.put, ag, ah, ai]
    refine ab 5 rfl ?_
    try simp only [Act.put, ag, ah, ai]
    refine ab 6 rfl ?_
    try simp only [Act.put, ag, ah, ai]
    have HOd : W2.drew.ownsRow w.heap.size 166 7 u7 (au L S ids i).length (bK (au L S ids i)) := yy HO2
    have HBd := (yy HB2).drew
    have hbs : w.heap.size ≤ W2.drew.heap.size := HBd.size
    have hbs2 : w.heap.size ≤ W2.heap.size := hbs
    have c0d : W2.drew.cell? ⟨bb, bo + i * 3, none⟩ = some (.int .i64 v1) := c0
    have c1d : W2.drew.cell? ⟨bb, bo + i * 3 + 1, none⟩ = some (.int .i64 v2) := c1
    have c2d : W2.drew.cell? ⟨bb, bo + i * 3 + 2, none⟩ = some (.int .i64 v3) := c2
    have d0d : W2.drew.cell? ⟨tb, 0, none⟩ = some (.int .i64 id) := d0
    have d1d : W2.drew.cell? ⟨tb, 1, none⟩ = some (.int .i64 q1) := d1
    have d2d : W2.drew.cell? ⟨tb, 2, none⟩ = some (.int .i64 q2) := d2
    have d3d : W2.drew.cell? ⟨tb, 3, none⟩ = some (.int .i64 q3) := d3
    clear c0 c1 c2 d0 d1 d2 d3
    refine ae 7 rfl fun K hK => ?_
    go_simp
    have Z5 := an W2.drew (.cells #[.int .i64 v1, .int .i64 v2, .int .i64 v3, .int .i64 id, .int .i64 q1, .int .i64 q2, .int .i64 q3] 166)
    have hown := fD HOd Z5
    have B5 := aj HBd Z5
    have c0 := dE c0d Z5
    have c1 := dE c1d Z5
    have c2 := dE c2d Z5
    have d0 := dE d0d Z5
    have d1 := dE d1d Z5
    have d2 := dE d2d Z5
    have d3 := dE d3d Z5
    clear Z5 c0d c1d c2d d0d d1d d2d d3d HOd HBd
    refine hK.out _ _ ?_ (fun hHeld3 => ?_)
    ·exact ⟨⟨c0, c1, c2⟩, d0, d1, d2, d3⟩
    clear hK K hHeld
    refine ae 8 rfl fun K hK => ?_
    refine jK rfl _ _ 144 rfl w.heap.size 166 i0 (.agg #[.int .i64 0, .int .i64 0, .int .i64 0, .int .i64 0, .int .i64 0, .int .i64 0, .int .i64 0]) 7 56 Tryz.underlying144 hinf hz0 hz1 hz2 rfl (by decide) _ _ _ rfl hown ⟨W2.drew.heap.size, 0, none⟩ 1 1 (bK [((v1, v2, v3), (id, q1, q2, q3))]) rfl rfl ?d2 (fun u hu => ku hu) ?d3 ?d4 ?d5 ?_
    case d2 => first | exact fun j u h => h | exact fP _ _ _
    case d3 => omega
    case d4 => omega
    case d5 => first | omega | (simp; omega)
    intro v7 V7 hown7 hgrow7
    have neb : ∀ z, z < w.heap.size ∨ tb ≤ z → some z ≠ u7.ownBlock := fun z hz e => by have := yy HU z e.symm; omega
    have HB8 : Hid (Below w.heap.size w V7) := yz (B5.trans ⟨hgrow7.os, hgrow7.tape, hgrow7.output, hgrow7.size, fun z hz => hgrow7.block z (by simp; omega) (neb z (.inl hz))⟩)
    have c0' := bD c0 hgrow7 (neb _ (.inl hbb))
    have c1' := bD c1 hgrow7 (neb _ (.inl hbb))
    have c2' := bD c2 hgrow7 (neb _ (.inl hbb))
    have d0' := bD d0 hgrow7 (neb _ (.inr (Nat.le_refl _)))
    have d1' := bD d1 hgrow7 (neb _ (.inr (Nat.le_refl _)))
    have d2' := bD d2 hgrow7 (neb _ (.inr (Nat.le_refl _)))
    have d3' := bD d3 hgrow7 (neb _ (.inr (Nat.le_refl _)))
    have HO8 : Hid (V7.ownsRow w.heap.size 166 7 v7 (au L S ids (i + 1)).length (bK (au L S ids (i + 1)))) := yz (by rw [yy HSN, lA, List.length_append]; exact hown7)
    clear hown7 hgrow7 hown B5 c0 c1 c2 d0 d1 d2 d3 neb
    refine hK.out _ _ ?_ (fun hHeld4 => ?_)
    ·exact ⟨⟨c0', c1', c2'⟩, d0', d1', d2', d3'⟩
    clear hK K hHeld3
    refine ae 9 rfl fun K hK => ?_
    go_simp
    refine hK.out _ _ ?_ (fun hHeld5 => ?_)
    ·exact ⟨⟨c0', c1', c2'⟩, d0', d1', d2', d3'⟩
    clear hK K hHeld4
    refine wpAnyH_done (by kernel_rfl) ?_ _
    clear c0' c1' c2' d0' d1' d2' d3' hHeld5
    go_wp2_with fail
    go_roundw
    case rel => exact ⟨i + 1, by omega, by go_num, HO8, HB8⟩
    case measure => simp [intOf] <;> omega
  ·have hin' : i = n := by omega
   subst hin'
   go_wp2_with fail
   go_ret
   exact ⟨⟨_, rfl, yy HO⟩, yy HB⟩
end
section
open Go.RowKit Go.Sort
theorem sI {L : List St} {S : List D3} {ids : List Int} (h : aT L = false) : be L S ids = false := by unfold be; rw [h]; rfl
theorem sJ {L : List St} {S : List D3} {ids : List Int} (h : aN S = false) : be L S ids = false := by unfold be; rw [h, Bool.and_false]; rfl
theorem sK {L : List St} {S : List D3} {ids : List Int} (h : ids.length ≠ S.length) : be L S ids = false := by unfold be; rw [decide_eq_false h, Bool.and_false]; rfl
theorem sL {L : List St} {S : List D3} {ids : List Int} (h1 : aT L = true) (h2 : aN S = true) (h3 : ids.length = S.length) : be L S ids = dC (au L S ids ids.length) (au L S ids ids.length).length := by unfold be; rw [h1, h2, decide_eq_true h3]; rfl
theorem qu {A : List Sg} {n : Nat} (h : ∀ i, i < n → (!eO (sgA A i).2.2 && dw A (sgA A i) i) = true) : dC A n = true := by
 unfold dC
 rw [List.all_eq_true]
 exact fun i hi => h i (List.mem_range.1 hi)
theorem nf {A : List Sg} {n i : Nat} (hi : i < n) (h : (!eO (sgA A i).2.2 && dw A (sgA A i) i) = false) : dC A n = false := by
 unfold dC
 rw [List.all_eq_false]
 exact ⟨i, List.mem_range.2 hi, by rw [h]; simp⟩
theorem ma {w : World} {B : Nat} {a : Option Addr} {c n m : Nat} {t : TypeId} {xs : List Value} (h : w.ownsRow B t m (.slice a n c) n xs) : c ≤ maxLen := by
 rcases h.2 with ⟨h1, h0⟩ | ⟨g, cap, cur, hv, hb, hg, hnc, hcm, hcs, htake⟩
 ·injection h1 with _ e2 e3
  omega
 ·injection hv with e1 e2 e3
  omega
theorem mL (L : List St) (S : List D3) (ids : List Int) (ar br ir : Option Addr) (cr dr er : Nat) (p : Addr) (w : World) (hn : L.length ≤ 1048576) (hcap : L.length ≤ cr) (hc9 : cr ≤ 9223372036854775807) (hn2 : S.length ≤ 1048576) (hcap2 : S.length ≤ dr) (hd9 : dr ≤ 9223372036854775807) (hn3 : ids.length ≤ 1048576) (hS : aH w ar L L.length) (hD : co w br S S.length) (hI : eP w ir ids ids.length) (hE : aY p w) :
  Calls Tryz.prog 114 #[.slice ar L.length cr, .slice br S.length dr, .slice ir ids.length er] w fun e w' => e = .returned (.bool (be L S ids)) ∧ Below w.heap.size w w' := by
 have cK := yz (fun (W : World) hW hE => eq L ar cr p W hn hcap hc9 hW hE)
 have cP := yz (fun (W : World) hW => eu S br dr W hn2 hcap2 hd9 hW)
 have cO : Hid (aT L = true → S.length ≤ 6 → ids.length = S.length → ∀ W : World, aH W ar L L.length → co W br S S.length → eP W ir ids ids.length → aY p W → Calls Tryz.prog 115 #[.slice ar L.length cr, .slice br S.length dr, .slice ir ids.length er] W fun e w' => (∃ v, e = .returned v ∧ w'.ownsRow W.heap.size 166 7 v (au L S ids ids.length).length (bK (au L S ids ids.length))) ∧ Below W.heap.size W w') := yz (fun hk hm hl W h1 h2 h3 h4 => jE L S ids ids.length ar br ir cr dr er p W hk hn hcap hc9 hm hl h1 h2 h3 h4)
 have H1 : Hid (aT L = false → be L S ids = false) := yz sI
 have H2 : Hid (aN S = false → be L S ids = false) := yz sJ
 have H3 : Hid (ids.length ≠ S.length → be L S ids = false) := yz sK
 have H4 : Hid (aT L = true → aN S = true → ids.length = S.length → be L S ids = dC (au L S ids ids.length) (au L S ids ids.length).length) := yz sL
 have H6 : Hid (aN S = true → S.length ≤ 6) := yz (fun h => (bq h).1)
 have hAL := fl L S ids ids.length
 have HS := yz hS
 have HD := yz hD
 have HI := yz hI
 have HE := yz hE
 clear hS hD hI hE
 generalize be L S ids = R at *
 generalize au L S ids ids.length = A at *
 generalize S.length = m at *
 generalize ids.length = k at *
 generalize L.length = n at *
 go_enter Tryz.func114, Tryz.ntmps114
 go_wp2_with fail
 refine (yy cK _ (yy HS) (yy HE)).mono ?_
 rintro e W1 ⟨rfl, hx⟩
 have B1 := yz hx
 clear hx
 cases hk : aT L
 ·obtain rfl := yy H1 hk
  go_wp2_with fail
  go_ret
  exact ⟨rfl, yy B1⟩
 go_wp2_with fail
 refine (yy cP _ ((yy HD).kept (yy B1))).mono ?_
 rintro e W2 ⟨rfl, hx⟩
 have B2 := yz (aj (yy B1) hx)
 clear hx B1
 cases hp : aN S
 ·obtain rfl := yy H2 hp
  go_wp2_with fail
  go_ret
  exact ⟨rfl, yy B2⟩
 by_cases hl0 : k ≠ m
 ·obtain rfl := yy H3 hl0
  have hl' : ¬ (k : Int) = (m : Int) := by omega
  have hl2 : ((k : Int) == (m : Int)) = false := by simp; omega
  go_wp2_with fail
  go_ret
  exact ⟨rfl, yy B2⟩
 have hl : k = m := Decidable.not_not.1 hl0
 clear hl0
 have HR := yz (yy H4 hk hp hl)
 have hm6 := yy H6 hp
 have cO' := yz (yy cO hk hm6 hl)
 subst hl
 clear hk hp H1 H2 H3 H4 H6 cK cP cO
 go_wp2_with fail
 refine (yy cO' _ ((yy HS).kept (yy B2)) ((yy HD).kept (yy B2)) ((yy HI).kept (yy B2)) ((yy HE).kept (yy B2))).mono ?_
 rintro e W3 ⟨⟨v3, rfl, ho⟩, hx⟩
 obtain ⟨a3, c3, rfl⟩ := tS ho
 have hcap3 := rH ho (by omega)
 have HSG := yz (iY ho)
 have B3 := yz (aj (yy B2) hx)
 have hc39 : c3 ≤ 9223372036854775807 := Nat.le_trans (ma ho) (by decide +kernel)
 clear ho hx B2 cO'
 generalize hal : A.length = al at *
 clear hal
 have cF : Hid (∀ (s : Sg) (i : Nat) (a : Option Addr) (W : World), i ≤ al → dQ W a A i → Calls Tryz.prog 124 #[sgV s, .slice a i c3] W fun e w' => e = .returned (.bool (dw A s i)) ∧ Below W.heap.size W w') := yz (fun s i a W hi hs => gJ A i s a c3 W (by omega) (by omega) hc39 hs)
 go_wp2_with fail
 rcases yy HSG with h0 | ⟨sb, so, rfl, hsb, hsc⟩
 ·subst h0
  have HY : Hid (R = true) := yz (by rw [yy HR]; rfl)
  refine wp_loop_rounds 1 ?_
  rw [rounds_succ]
  go_wp2_with fail
  go_ret
  exact ⟨by rw [yy HY]; rfl, yy B3⟩
 have HSC := yz hsc
 clear hsc
 have hsb3 : sb < W3.heap.size := hsb
 go_loopw [31] (fun kk wr => ∃ i : Nat, i ≤ al ∧ kk = .int .i64 i ∧ Hid (∀ j, j < i → (!eO (sgA A j).2.2 && dw A (sgA A j) j) = true) ∧ Hid (Below W3.heap.size W3 wr)) (fun kk _ => al - (intOf kk).toNat)
 case atStart => exact ⟨0, by omega, rfl, yz (fun j hj => absurd hj (Nat.not_lt_zero _)), yz (Below.refl _ _)⟩
 case round =>
  obtain ⟨i, hi, rfl, HF, HB⟩ := hrel
  by_cases hin : i < al
  ·have hin2 : (i : Int) < (al : Int) := by omega
   obtain ⟨t, ht⟩ : ∃ t, sgA A i = t := ⟨_, rfl⟩
   have hst := ((yy HSC) i hin).kept (yy HB)
   rw [ht] at hst
   have HT := yz ht
   clear ht
   have HSi : Hid (dQ wr (some ⟨sb, so, none⟩) A i) := yz ((((yy HSG).less (Nat.le_of_lt hin))).kept (yy HB))
   have cFi := yz (fun W h => yy cF t i (some ⟨sb, so, none⟩) W (Nat.le_of_lt hin) h)
   have HOK : Hid ((!eO (sgA A i).2.2 && dw A (sgA A i) i) = (!eO t.2.2 && dw A t i)) := yz (by rw [yy HT])
   have Z := an wr (.cells #[.int .i64 t.1.1, .int .i64 t.1.2.1, .int .i64 t.1.2.2, .int .i64 t.2.1, .int .i64 t.2.2.1, .int .i64 t.2.2.2.1, .int .i64 t.2.2.2.2] 166)
   have T1 := eo wr t 166
   have HB1 := yz (aj (yy HB) Z)
   have HS1 := yz ((yy HSi).kept Z)
   clear Z HB HSi
   generalize hfv : dw A t i = fv at *
   clear hfv
   obtain ⟨⟨b1, b2, b3⟩, b4, b5, b6, b7⟩ := t
   have cFj : Hid (∀ (W : World), dQ W (some ⟨sb, so, none⟩) A i → Calls Tryz.prog 124 #[.agg #[.int .i64 b1, .int .i64 b2, .int .i64 b3, .int .i64 b4, .int .i64 b5, .int .i64 b6, .int .i64 b7], .slice (some ⟨sb, so, none⟩) i c3] W fun e w' => e = .returned (.bool fv) ∧ Below W.heap.size W w') := cFi
   clear cFi
   have HOK' : Hid ((!eO (sgA A i).2.2 && dw A (sgA A i) i) = (!eqB b5 b6 b7 0 0 0 && fv)) := HOK
   clear HOK
   have he := fun W => oq b5 b6 b7 0 0 0 W
   obtain ⟨c0, c1, c2, c3', c4, c5, c6⟩ := hst
   simp only at c0 c1 c2 c3' c4 c5 c6 T1 HB1 HS1
   go_wp2_with fail
   clear c0 c1 c2 c3' c4 c5 c6
   generalize wr.alloc (.cells #[.int .i64 b1, .int .i64 b2, .int .i64 b3, .int .i64 b4, .int .i64 b5, .int .i64 b6, .int .i64 b7] 166) = W4 at T1 HB1 HS1 ⊢
   generalize wr.heap.size = tb at *
   obtain ⟨x0, x1, x2, x3, x4, x5, x6⟩ := T1
   simp only [Nat.zero_add] at x0 x1 x2 x3 x4 x5 x6
   have r0 := cell_regrown x0
   have r1 := cell_regrown x1
   have r2 := cell_regrown x2
   have r3 := cell_regrown x3
   have r4 := cell_regrown x4
   have r5 := cell_regrown x5
   have r6 := cell_regrown x6
   clear x0 x1 x2 x3 x4 x5 x6
   have hic : (i : Int) ≤ (c3 : Int) := by omega
   cases hz : eqB b5 b6 b7 0 0 0
   ·rw [hz] at he HOK'
    rw [Bool.not_false, Bool.true_and] at HOK'
    refine wp_region_quiet_below (by kernel_rfl) (by kernel_rfl) ?_
    repeat (go_big_quiet_step (first | (with_reducible exact Calls.regrown_of (yy cFj _ ((yy HS1).kept (below_regrown _ _ _))))))
    refine wpQuiet_nil ?_
    intro _ hw'
    obtain ⟨⟨dq, osq⟩, hw''⟩ := hw'
    subst hw''
    have hx := aj (yy HB1) (below_regrown W4 dq osq)
    generalize grow (redrawn W4 dq) osq = W5 at hx ⊢
    have HB5 := yz hx
    clear hx r0 r1 r2 r3 r4 r5 r6 he cFj HS1 HB1
    cases fv
    ·have HNO : Hid (R = false) := yz (by rw [yy HR]; exact nf hin (yy HOK'))
     go_wp2_with fail
     go_ret
     exact ⟨by rw [yy HNO]; rfl, (yy B3).trans ((yy HB5).mono (yy B3).size)⟩
    ·go_wp2_with fail
     go_roundw
     case rel => exact ⟨i + 1, by omega, by go_num, yz (fun l hl => by
      by_cases e : l = i
      ·rw [e]; exact yy HOK'
      ·exact yy HF l (by omega)), HB5⟩
     case measure => simp [intOf] <;> omega
   ·rw [hz] at he HOK'
    have HNO : Hid (R = false) := yz (by rw [yy HR]; exact nf hin (yy HOK'))
    refine wp_region_quiet_below (by kernel_rfl) (by kernel_rfl) ?_
    repeat (go_big_quiet_step (fail))
    refine wpQuiet_nil ?_
    intro _ hw'
    obtain ⟨⟨dq, osq⟩, hw''⟩ := hw'
    subst hw''
    have hx := aj (yy HB1) (below_regrown W4 dq osq)
    generalize grow (redrawn W4 dq) osq = W5 at hx ⊢
    go_wp2_with fail
    go_ret
    exact ⟨by rw [yy HNO]; rfl, (yy B3).trans (hx.mono (yy B3).size)⟩
  ·have hin' : i = al := by omega
   subst hin'
   have HY : Hid (R = true) := yz (by rw [yy HR]; exact qu (yy HF))
   go_wp2_with fail
   go_ret
   exact ⟨by rw [yy HY]; rfl, (yy B3).trans ((yy HB).mono (yy B3).size)⟩
def eE (xs : List Int) : List Value := xs.map (fun z => .int .i64 z)
theorem nB {S : List Int} {v : Value} (h : v ∈ eE S) : v.oneCell' = true := by
 unfold eE at h
 rw [List.mem_map] at h
 obtain ⟨p, _, rfl⟩ := h
 rfl
theorem fQ (w : World) (B : Nat) (h : B ≤ w.heap.size) : (w.alloc (.cells #[] 2)).ownsRow B 2 1 (.slice (some ⟨w.heap.size, 0, none⟩) 0 0) 0 (eE []) :=
 ⟨rfl, .inr ⟨_, 0, #[], rfl, h, Array.getElem?_push_size, Nat.le_refl _, Nat.zero_le _, rfl, rfl⟩⟩
theorem tR {w : World} {B B' n m : Nat} {t : TypeId} {v : Value} {xs : List Value} (h : w.ownsRow B t m v n xs) (hb : B' ≤ B) : w.ownsRow B' t m v n xs := by
 obtain ⟨h1, h2⟩ := h
 refine ⟨h1, ?_⟩
 rcases h2 with h2 | ⟨g, cap, cur, e, hg, r⟩
 ·exact .inl h2
 ·exact .inr ⟨g, cap, cur, e, by omega, r⟩
def dH (L : List St) (a b c d : Int) (v : D3) : Nat → Nat
 | 0 => 0
 | k + 1 => dH L a b c d v k + if bg v (apD a b c d (stA L k).2) = true then 1 else 0
def dY (L : List St) (a b c d : Int) (S : List D3) (n : Nat) : Nat → Nat
 | 0 => 0
 | i + 1 => dY L a b c d S n i + dH L a b c d (vA S i) n
theorem ij (L : List St) (a b c d : Int) (v : D3) : ∀ k, dH L a b c d v k ≤ k
 | 0 => Nat.le_refl _
 | k + 1 => by unfold dH; have := ij L a b c d v k; split <;> omega
theorem nv (L : List St) (a b c d : Int) (S : List D3) (n : Nat) : ∀ i, dY L a b c d S n i ≤ i * n
 | 0 => Nat.zero_le _
 | i + 1 => by unfold dY; have := nv L a b c d S n i; have := ij L a b c d (vA S i) n; rw [Nat.succ_mul]; omega
def iG (L : List St) (a b c d : Int) (S : List D3) : List Int := S.map (fun v => de L a b c d v L.length)
theorem tH (L : List St) (a b c d : Int) (S : List D3) (i : Nat) (hi : i < S.length) : iG L a b c d (S.take (i + 1)) = iG L a b c d (S.take i) ++ [de L a b c d (vA S i) L.length] := by
 have e : S.take (i + 1) = S.take i ++ [vA S i] := by
  rw [List.take_succ_eq_append_getElem hi]
  congr 2
  unfold vA
  rw [List.getD_eq_getElem?_getD, List.getElem?_eq_getElem hi]
  rfl
 unfold iG
 rw [e, List.map_append]
 rfl
theorem gP (p q : D3) (w : World) (hp : aK 1000000 p.1 p.2.1 p.2.2 = true) (hq : aK 1000000 q.1 q.2.1 q.2.2 = true) :
  Calls Tryz.prog 71 #[.agg #[.int .i64 p.1, .int .i64 p.2.1, .int .i64 p.2.2], .agg #[.int .i64 q.1, .int .i64 q.2.1, .int .i64 q.2.2]] w fun e w' => e = .returned (.bool (bg q p)) ∧ Below w.heap.size w w' := by
 refine (gO _ _ _ _ _ _ w).mono fun e w' h => ?_
 have h2 := qg hp hq
 rw [qV]
 unfold bg
 rw [← h2]
 exact h
theorem gQ (a b c d : Int) (v : D3) (w : World) (ht : aC a b c d = true) (hv : aL v.1 v.2.1 v.2.2 = true) :
  Calls Tryz.prog 88 #[.agg #[.int .i64 a, .int .i64 b, .int .i64 c, .int .i64 d], .agg #[.int .i64 v.1, .int .i64 v.2.1, .int .i64 v.2.2]] w fun e w' => e = .returned (.agg #[.int .i64 (apD a b c d v).1, .int .i64 (apD a b c d v).2.1, .int .i64 (apD a b c d v).2.2]) ∧ Below w.heap.size w w' :=
 js a b c d v.1 v.2.1 v.2.2 w (bE.1 ht).1 (lg (kI hv))
theorem jP {x y z : Int} (h : bO x y z = true) : aK 1000000 x y z = true := by
 have h2 := (bh.1 (eN h).1).1
 rw [aW]
 exact h2
theorem oG (L : List St) (S : List D3) (ar br : Option Addr) (cr dr : Nat) (a b c d : Int) (w : World) (hk : aT L = true) (hr : aC a b c d = true) (hp : aN S = true) (hS : aH w ar L L.length) (hD : co w br S S.length) :
  Calls Tryz.prog 72 #[.slice ar L.length cr, .agg #[.int .i64 a, .int .i64 b, .int .i64 c, .int .i64 d], .slice br S.length dr] w fun e w' => (∃ v, e = .returned (.tuple #[v, .int .i64 (dY L a b c d S L.length S.length : Int)]) ∧ w'.ownsRow w.heap.size 2 1 v (iG L a b c d S).length (eE (iG L a b c d S))) ∧ Below w.heap.size w w' := by
 obtain ⟨i0, hinf, hz0, hz1, hz2⟩ := info_parts gN
 have hm8 : 1000 ≤ maxLen := by decide +kernel
 have HSM : Hid (∀ j, j < L.length → aL (stA L j).2.1 (stA L j).2.2.1 (stA L j).2.2.2 = true) := yz (fun j hj => fj ((cx hk).2 j hj))
 have HWD : Hid (∀ j, j < S.length → fX (vA S j) = true) := yz (fun j hj => jy ((bq hp).2 j hj))
 have hn12 := (cx hk).1
 have hm6 := (bq hp).1
 have HSN := yz (tH L a b c d S)
 have HRT := yz hr
 have HS := yz hS
 have HD := yz hD
 have HAL : Hid (iG L a b c d (S.take S.length) = iG L a b c d S) := yz (by rw [List.take_length])
 clear hS hD hk hr hp
 generalize S.length = m at *
 generalize L.length = n at *
 have T0 := aO w a b c d 25
 have B0 := an w (.cells #[.int .i64 a, .int .i64 b, .int .i64 c, .int .i64 d] 25)
 have e1 : (w.alloc (.cells #[.int .i64 a, .int .i64 b, .int .i64 c, .int .i64 d] 25)).heap.size = w.heap.size + 1 := by simp
 have Z := an (w.alloc (.cells #[.int .i64 a, .int .i64 b, .int .i64 c, .int .i64 d] 25)) (.cells #[] 2)
 have O0 := fQ (w.alloc (.cells #[.int .i64 a, .int .i64 b, .int .i64 c, .int .i64 d] 25)) (w.heap.size + 1) (by omega)
 rw [e1] at O0
 have HT := yz (T0.kept T0.lt Z)
 have HB := yz (aj B0 Z)
 have HO := yz O0
 have hlow : w.heap.size + 1 ≤ ((w.alloc (.cells #[.int .i64 a, .int .i64 b, .int .i64 c, .int .i64 d] 25)).alloc (.cells #[] 2)).heap.size := by simp
 clear T0 B0 Z O0 e1
 go_enter Tryz.func72, Tryz.ntmps72
 go_wp2_with fail
 generalize (w.alloc (.cells #[.int .i64 a, .int .i64 b, .int .i64 c, .int .i64 d] 25)).alloc (.cells #[] 2) = W0 at HT HB HO hlow ⊢
 go_loopw [8, 9, 10] (fun v cc kk wr => ∃ i : Nat, i ≤ m ∧ kk = .int .i64 i ∧ cc = .int .i64 (dY L a b c d S n i : Int) ∧ Hid (wr.ownsRow (w.heap.size + 1) 2 1 v (iG L a b c d (S.take i)).length (eE (iG L a b c d (S.take i)))) ∧ Hid (aI wr w.heap.size a b c d) ∧ Hid (Below w.heap.size w wr) ∧ w.heap.size + 1 ≤ wr.heap.size) (fun _ _ kk _ => m - (intOf kk).toNat)
 case atStart => exact ⟨0, by omega, rfl, rfl, HO, HT, HB, hlow⟩
 case round =>
  clear HO HT HB hlow
  obtain ⟨i, hi, rfl, rfl, HO, HT, HB, hlow⟩ := hrel
  by_cases him : i < m
  ·have him2 : (i : Int) < (m : Int) := by omega
   have hhl := nv L a b c d S n i
   have hhl2 : dY L a b c d S n i ≤ 100 := by have := Nat.mul_le_mul (show i ≤ 6 by omega) hn12; omega
   have hwd := yy HWD i him
   have HHI : Hid (dY L a b c d S n (i + 1) = dY L a b c d S n i + dH L a b c d (vA S i) n) := yz rfl
   have HSI := yz (yy HSN i (by first | exact him | omega))
   rcases yy HD with h | ⟨bb, bo, rfl, hbb, hbc⟩
   ·omega
   have hst := hbc i him
   clear hbc
   obtain ⟨⟨v1, v2, v3⟩, hv⟩ : ∃ v, vA S i = v := ⟨_, rfl⟩
   rw [hv] at hst HHI HSI hwd
   clear hv
   have HVC := yz hst
   clear hst
   generalize dY L a b c d S n i = hc0 at *
   go_wp2_with fail
   go_loopw [9, 11, 12] (fun cc id kk wr => ∃ k : Nat, k ≤ n ∧ kk = .int .i64 k ∧ cc = .int .i64 ((hc0 + dH L a b c d (v1, v2, v3) k : Nat) : Int) ∧ id = .int .i64 (de L a b c d (v1, v2, v3) k) ∧ Hid (wr.ownsRow (w.heap.size + 1) 2 1 u8 (iG L a b c d (S.take i)).length (eE (iG L a b c d (S.take i)))) ∧ Hid (aI wr w.heap.size a b c d) ∧ Hid (Below w.heap.size w wr) ∧ w.heap.size + 1 ≤ wr.heap.size) (fun _ _ kk _ => n - (intOf kk).toNat)
   case atStart => exact ⟨0, by omega, rfl, by rfl, rfl, HO, HT, HB, hlow⟩
   case round =>
    clear HO HT HB hlow
    obtain ⟨k, hk, rfl, rfl, rfl, HO, HT, HB, hlow⟩ := hrel
    by_cases hkn : k < n
    ·have hkn2 : (k : Int) < (n : Int) := by omega
     rcases yy HS with h0 | ⟨sb, so, rfl, hsb, hsc⟩
     ·omega
     have hst := (hsc k hkn).kept hsb (yy HB)
     clear hsc
     have hvt := (yy HVC).kept hbb (yy HB)
     have hsm := yy HSM k hkn
     have hhk := ij L a b c d (v1, v2, v3) k
     have HHK : Hid (dH L a b c d (v1, v2, v3) (k + 1) = dH L a b c d (v1, v2, v3) k + if bg (v1, v2, v3) (apD a b c d (stA L k).2) = true then 1 else 0) := yz rfl
     have HID : Hid (de L a b c d (v1, v2, v3) (k + 1) = if bg (v1, v2, v3) (apD a b c d (stA L k).2) = true then (stA L k).1 else de L a b c d (v1, v2, v3) k) := yz rfl
     obtain ⟨⟨s1, s2, s3, s4⟩, hs⟩ : ∃ s, stA L k = s := ⟨_, rfl⟩
     rw [hs] at hst hsm HID HHK
     clear hs
     obtain ⟨c0, c1, c2, c3⟩ := hst
     obtain ⟨d0, d1, d2⟩ := hvt
     obtain ⟨e0, e1, e2, e3⟩ := yy HT
     have HID' : Hid (de L a b c d (v1, v2, v3) (k + 1) = if bg (v1, v2, v3) (apD a b c d (s2, s3, s4)) = true then s1 else de L a b c d (v1, v2, v3) k) := HID
     have HHK' : Hid (dH L a b c d (v1, v2, v3) (k + 1) = dH L a b c d (v1, v2, v3) k + if bg (v1, v2, v3) (apD a b c d (s2, s3, s4)) = true then 1 else 0) := HHK
     have cA := yz (fun W => gQ a b c d (s2, s3, s4) W (yy HRT) hsm)
     have cS := yz (fun W => gP (apD a b c d (s2, s3, s4)) (v1, v2, v3) W (lk (yy HRT) hsm) (jP hwd))
     clear HID HHK hsm
     generalize apD a b c d (s2, s3, s4) = q at *
     obtain ⟨q1, q2, q3⟩ := q
     generalize bg (v1, v2, v3) (q1, q2, q3) = sm at *
     generalize dH L a b c d (v1, v2, v3) k = hk0 at *
     generalize hiv : de L a b c d (v1, v2, v3) k = idv at *
     clear hiv
     simp only at cA cS
     have r0 := cell_regrown c0
     have r1 := cell_regrown c1
     have r2 := cell_regrown c2
     have r3 := cell_regrown c3
     have x0 := cell_regrown d0
     have x1 := cell_regrown d1
     have x2 := cell_regrown d2
     have y0 := cell_regrown e0
     have y1 := cell_regrown e1
     have y2 := cell_regrown e2
     have y3 := cell_regrown e3
     have HC0 := yz c0
     clear c0 c1 c2 c3 d0 d1 d2 e0 e1 e2 e3
     go_wp2_with fail
     refine wp_region_quiet_below (by kernel_rfl) (by kernel_rfl) ?_
     repeat (go_big_quiet_step (first | (with_reducible exact Calls.regrown_of (yy cA _)) | (with_reducible exact Calls.regrown_of (yy cS _))))
     refine wpQuiet_nil ?_
     intro _ hw'
     obtain ⟨⟨dq, osq⟩, hw''⟩ := hw'
     subst hw''
     have hx := below_regrown wr dq osq
     have HO3 := yz (fD (yy HO) hx)
     have HT3 := yz ((yy HT).kept (yy HT).lt hx)
     have HB3 := yz (aj (yy HB) hx)
     have hlow3 := Nat.le_trans hlow hx.size
     have c0 := r0 dq osq
     generalize grow (redrawn wr dq) osq = W3 at hx HO3 HT3 HB3 hlow3 c0 ⊢
     clear hx cA cS r0 r1 r2 r3 x0 x1 x2 y0 y1 y2 y3 HO HT HB hlow
     cases sm
     ·rw [if_neg (by simp)] at HID' HHK'
      go_wp2_with fail
      go_roundw
      case rel => exact ⟨k + 1, by omega, by go_num, by rw [yy HHK']; rfl, by rw [yy HID'], HO3, HT3, HB3, hlow3⟩
      case measure => simp [intOf]; omega
     ·rw [if_pos rfl] at HID' HHK'
      go_wp2_with fail
      go_roundw
      case rel => exact ⟨k + 1, by omega, by go_num, by rw [yy HHK']; go_num, by rw [yy HID'], HO3, HT3, HB3, hlow3⟩
      case measure => simp [intOf]; omega
    ·have hkn' : k = n := by omega
     subst hkn'
     have hhk := ij L a b c d (v1, v2, v3) k
     have HCC : Hid ((hc0 + dH L a b c d (v1, v2, v3) k : Nat) = dY L a b c d S k (i + 1)) := yz (yy HHI).symm
     have hli : (iG L a b c d (S.take i)).length ≤ 6 := by unfold iG; rw [List.length_map]; have := List.length_take_le i S; omega
     rw [yy HCC]
     generalize de L a b c d (v1, v2, v3) k = idv at *
     generalize hce : dY L a b c d S k (i + 1) = hcn at *
     have HCE := yz hce
     clear hce
     have Z1 := an wr (.cells #[.int .i64 idv] 2)
     have hown := fD (yy HO) Z1
     have B3 := aj (yy HB) Z1
     have T3 := (yy HT).kept (yy HT).lt Z1
     clear Z1 HO HB HT
     generalize iG L a b c d (S.take i) = Pk at *
     go_wp2_with (at_builtin; refine wpList_append_own _ rfl _ _ 44 rfl (w.heap.size + 1) 2 i0 (.int .i64 0) 1 8 Tryz.underlying44 hinf hz0 hz1 hz2 rfl (by decide) _ _ _ rfl hown ⟨wr.heap.size, 0, none⟩ 1 1 (eE [idv]) rfl rfl ?d2 (fun u hu => nB hu) ?d3 ?d4 ?d5 ?_)
     case d2 => first | exact fun j u h => h | exact fP _ _ _
     case d3 => omega
     case d4 => omega
     case d5 => first | omega | (simp; omega)
     intro v7 V7 hown7 hgrow7 _
     have ne : ∀ z, z < w.heap.size + 1 → some z ≠ u8.ownBlock := fun z hz e => by have := (hown.lt z e.symm).1; omega
     have HB8 : Hid (Below w.heap.size w V7) := yz (B3.trans ⟨hgrow7.os, hgrow7.tape, hgrow7.output, hgrow7.size, fun z hz => hgrow7.block z (by simp; omega) (ne z (by omega))⟩)
     have HT8 := yz (T3.same (hgrow7.block w.heap.size (by simp; omega) (ne _ (by omega))))
     have HO8 : Hid (V7.ownsRow (w.heap.size + 1) 2 1 v7 (iG L a b c d (S.take (i + 1))).length (eE (iG L a b c d (S.take (i + 1))))) := yz (by
      rw [yy HSI, List.length_append]
      unfold eE
      rw [List.map_append]
      exact hown7)
     have hlow8 : w.heap.size + 1 ≤ V7.heap.size := by have := hgrow7.size; simp at this; omega
     clear hown7 hgrow7 hown B3 T3 ne
     go_wp2_with fail
     go_roundw
     case rel => exact ⟨i + 1, by omega, by go_num, by rw [yy HCE], HO8, HT8, HB8, hlow8⟩
     case measure => simp [intOf]; omega
  ·have him' : i = m := by omega
   subst him'
   rw [yy HAL] at HO
   go_wp2_with fail
   exact bodyPost_ret (v := .tuple #[u8, .int .i64 (dY L a b c d S n i : Int)]) (by simp [results, Tryz.results72, go_sem]) rfl ⟨⟨_, rfl, tR (yy HO) (by omega)⟩, yy HB⟩
def tA (L : List T4) (i : Nat) : T4 := L.getD i (0, 0, 0, 0)
theorem tx : ∀ (S : List T4) (k : Nat) (b : T4), S[k]? = some b → ∀ j u, (nP b)[j]? = some u → (cH S)[k * 4 + j]? = some u := by
 intro S
 induction S with
 | nil => intro k b h; simp at h
 | cons x S ih =>
  intro k b h j u hu
  have e : cH (x :: S) = nP x ++ cH S := by unfold cH; simp
  have hj : j < 4 := (List.getElem?_eq_some_iff.1 hu).1
  rw [e]
  cases k with
  | zero =>
   simp at h
   subst h
   rw [List.getElem?_append_left (by show _ < 4; omega)]
   simpa using hu
  | succ k =>
   rw [List.getElem?_append_right (by show 4 ≤ _; omega)]
   rw [show (k + 1) * 4 + j - (nP x).length = k * 4 + j by show _ - 4 = _; omega]
   exact ih k b (by simpa using h) j u hu
def gE (w : World) (g : Nat) (L : List T4) : Prop := g < w.heap.size ∧ ∀ k, k < L.length → w.cell? ⟨g, k * 4, none⟩ = some (.int .i64 (tA L k).1) ∧ w.cell? ⟨g, k * 4 + 1, none⟩ = some (.int .i64 (tA L k).2.1) ∧ w.cell? ⟨g, k * 4 + 2, none⟩ = some (.int .i64 (tA L k).2.2.1) ∧ w.cell? ⟨g, k * 4 + 3, none⟩ = some (.int .i64 (tA L k).2.2.2)
theorem gE.kept {w w' : World} {g : Nat} {L : List T4} (h : gE w g L) (hB : Below w.heap.size w w') : gE w' g L := by
 refine ⟨Nat.lt_of_lt_of_le h.1 hB.size, fun k hk => ?_⟩
 obtain ⟨h0, h1, h2, h3⟩ := h.2 k hk
 exact ⟨by rw [hB.cell (p := ⟨g, k * 4, none⟩) h.1]; exact h0, by rw [hB.cell (p := ⟨g, k * 4 + 1, none⟩) h.1]; exact h1, by rw [hB.cell (p := ⟨g, k * 4 + 2, none⟩) h.1]; exact h2, by rw [hB.cell (p := ⟨g, k * 4 + 3, none⟩) h.1]; exact h3⟩
theorem nQ {w : World} {B : Nat} {v : Value} {L : List T4} (h : w.ownsRow B 25 4 v L.length (cH L)) (h0 : 0 < L.length) : ∃ g c, v = .slice (some ⟨g, 0, none⟩) L.length c ∧ B ≤ g ∧ gE w g L := by
 rcases h.2 with ⟨h1, h0'⟩ | ⟨g, cap, cur, hv, hb, hg, hnc, hcm, hcs, htake⟩
 ·omega
 ·refine ⟨g, cap, hv, hb, (Array.getElem?_eq_some_iff.1 hg).1, fun k hk => ?_⟩
  have hk' : L[k]? = some (tA L k) := by unfold tA; rw [List.getD, List.getElem?_eq_getElem hk]; rfl
  have cl : ∀ j u, (nP (tA L k))[j]? = some u → w.cell? ⟨g, k * 4 + j, none⟩ = some u := by
   intro j u hu
   have hj : j < 4 := (List.getElem?_eq_some_iff.1 hu).1
   have e := tx L k _ hk' j u hu
   rw [cell_of_row w g _ cur _ _ hg]
   rw [← htake, List.getElem?_take, if_pos (by omega)] at e
   simpa using e
  exact ⟨cl 0 _ rfl, cl 1 _ rfl, cl 2 _ rfl, cl 3 _ rfl⟩
end
section
open Go.RowKit
def bQ (t : T4) (s : Sg) : Bool := bg s.1 (apD t.1 t.2.1 t.2.2.1 t.2.2.2 s.2.2)
def bN (A : List Sg) (t : T4) : Bool := A.all (bQ t)
theorem tu {A : List Sg} {t : T4} (h : ∀ i, i < A.length → bQ t (sgA A i) = true) : bN A t = true := by
 unfold bN
 rw [← gc, List.all_eq_true]
 exact fun i hi => h i (List.mem_range.1 hi)
theorem ur {A : List Sg} {t : T4} {i : Nat} (hi : i < A.length) (h : bQ t (sgA A i) = false) : bN A t = false := by
 unfold bN
 rw [← gc, List.all_eq_false]
 exact ⟨i, List.mem_range.2 hi, by rw [h]; simp⟩
def dF (A : List Sg) (T : List T4) : T4 × Int := match T.find? (bN A) with | some t => (t, 0) | none => ((0, 0, 0, 0), 6)
theorem rf {T : List T4} {k : Nat} (hk : k < T.length) : T[k]? = some (tA T k) := by unfold tA; rw [List.getD_eq_getElem?_getD, List.getElem?_eq_getElem hk]; rfl
theorem pw {A : List Sg} {T : List T4} {k : Nat} (hk : k < T.length) (h : ∀ j, j < k → bN A (tA T j) = false) (h1 : bN A (tA T k) = true) : dF A T = (tA T k, 0) := by
 unfold dF
 have : T.find? (bN A) = some (tA T k) := by
  rw [List.find?_eq_some_iff_getElem]
  refine ⟨h1, k, hk, ?_, fun j hj => ?_⟩
  ·have := rf hk
   rw [List.getElem?_eq_getElem hk] at this
   exact Option.some.inj this
  ·have e := rf (T := T) (k := j) (by omega)
   rw [List.getElem?_eq_getElem (by omega)] at e
   rw [Option.some.inj e, h j hj]
   rfl
 rw [this]
theorem lx {A : List Sg} {T : List T4} (h : ∀ j, j < T.length → bN A (tA T j) = false) : dF A T = ((0, 0, 0, 0), 6) := by
 unfold dF
 have : T.find? (bN A) = none := by
  rw [List.find?_eq_none]
  intro x hx
  obtain ⟨j, hj, rfl⟩ := List.getElem_of_mem hx
  have e := rf (T := T) (k := j) hj
  rw [List.getElem?_eq_getElem hj] at e
  rw [Option.some.inj e, h j hj]
  simp
 rw [this]
def fH (L : List St) (S : List D3) (ids : List Int) : T4 × Int :=
 if 400 < L.length ∨ 400 < S.length ∨ 400 < ids.length then ((0, 0, 0, 0), 2)
 else if be L S ids = true then (if (au L S ids ids.length).length < 2 then ((0, 0, 0, 0), 10) else dF (au L S ids ids.length) (az 625))
 else ((0, 0, 0, 0), 1)
theorem tB {L : List St} {S : List D3} {ids : List Int} (h : 400 < L.length ∨ 400 < S.length ∨ 400 < ids.length) : fH L S ids = ((0, 0, 0, 0), 2) := by unfold fH; rw [if_pos h]
theorem tz {L : List St} {S : List D3} {ids : List Int} (h : ¬ (400 < L.length ∨ 400 < S.length ∨ 400 < ids.length)) (h1 : be L S ids = false) : fH L S ids = ((0, 0, 0, 0), 1) := by unfold fH; rw [if_neg h, h1]; rfl
theorem uu {L : List St} {S : List D3} {ids : List Int} (h : ¬ (400 < L.length ∨ 400 < S.length ∨ 400 < ids.length)) (h1 : be L S ids = true) (h2 : (au L S ids ids.length).length < 2) : fH L S ids = ((0, 0, 0, 0), 10) := by unfold fH; rw [if_neg h, if_pos h1, if_pos h2]
theorem sh {L : List St} {S : List D3} {ids : List Int} (h : ¬ (400 < L.length ∨ 400 < S.length ∨ 400 < ids.length)) (h1 : be L S ids = true) (h2 : ¬ (au L S ids ids.length).length < 2) : fH L S ids = dF (au L S ids ids.length) (az 625) := by unfold fH; rw [if_neg h, if_pos h1, if_neg h2]
theorem dm {L : List St} {S : List D3} {ids : List Int} (h : be L S ids = true) : aT L = true ∧ aN S = true ∧ ids.length = S.length ∧ dC (au L S ids ids.length) (au L S ids ids.length).length = true := by
 unfold be at h
 simp only [Bool.and_eq_true, decide_eq_true_eq] at h
 exact ⟨h.1.1.1, h.1.1.2, h.1.2, h.2⟩
theorem sU {L : List St} {S : List D3} {ids : List Int} {n i : Nat} (hi : i < (au L S ids n).length) : ∃ j, j < n ∧ ids.getD j 0 ≠ 0 ∧ sgA (au L S ids n) i = bn L S ids j := by
 have hm : sgA (au L S ids n) i ∈ au L S ids n := by
  unfold sgA
  rw [List.getD_eq_getElem?_getD, List.getElem?_eq_getElem hi]
  exact List.getElem_mem hi
 generalize sgA (au L S ids n) i = s at hm ⊢
 unfold au at hm
 rw [List.mem_map] at hm
 obtain ⟨j, hj, rfl⟩ := hm
 rw [List.mem_filter] at hj
 exact ⟨j, List.mem_range.1 hj.1, of_decide_eq_true hj.2, rfl⟩
theorem qh {L : List St} {S : List D3} {ids : List Int} (h : be L S ids = true) {i : Nat} (hi : i < (au L S ids ids.length).length) : aL (sgA (au L S ids ids.length) i).2.2.1 (sgA (au L S ids ids.length) i).2.2.2.1 (sgA (au L S ids ids.length) i).2.2.2.2 = true := by
 obtain ⟨h1, h2, h3, h4⟩ := dm h
 unfold dC at h4
 have h5 := List.all_eq_true.1 h4 i (List.mem_range.2 hi)
 rw [Bool.and_eq_true] at h5
 obtain ⟨j, hj, h0, e⟩ := sU hi
 rw [e] at h5 ⊢
 exact pm h1 (by have h6 := h5.1; rw [Bool.not_eq_true'] at h6; exact h6)
theorem lW {L : List St} {S : List D3} {ids : List Int} (h : be L S ids = true) {j : Nat} (hj : j < ids.length) (h0 : ids.getD j 0 ≠ 0) : aL (atV L L.length (ids.getD j 0)).1 (atV L L.length (ids.getD j 0)).2.1 (atV L L.length (ids.getD j 0)).2.2 = true ∧ fX (vA S j) = true := by
 obtain ⟨h1, h2, h3, h4⟩ := dm h
 rw [← lX] at h4
 unfold eR at h4
 have h5 := List.all_eq_true.1 h4 j (List.mem_range.2 hj)
 rw [decide_eq_false h0, Bool.false_or, Bool.and_eq_true] at h5
 exact ⟨pm h1 (by simpa using h5.1), jy ((bq h2).2 j (by omega))⟩
def fa (L : List St) (S : List D3) (ids : List Int) (t : T4) (n : Nat) : Bool := (List.range n).all fun j => decide (ids.getD j 0 = 0) || bQ t (bn L S ids j)
theorem nR (L : List St) (S : List D3) (ids : List Int) (t : T4) (n : Nat) : fa L S ids t n = bN (au L S ids n) t := (iX L S ids (bQ t) n).symm
theorem rj {L : List St} {S : List D3} {ids : List Int} {t : T4} {n j : Nat} (hj : j < n) (h : (decide (ids.getD j 0 = 0) || bQ t (bn L S ids j)) = false) : fa L S ids t n = false := by
 unfold fa
 rw [List.all_eq_false]
 exact ⟨j, List.mem_range.2 hj, by rw [h]; simp⟩
theorem qn {L : List St} {S : List D3} {ids : List Int} {t : T4} {n : Nat} (h : ∀ j, j < n → (decide (ids.getD j 0 = 0) || bQ t (bn L S ids j)) = true) : fa L S ids t n = true := by
 unfold fa
 rw [List.all_eq_true]
 exact fun j hj => h j (List.mem_range.1 hj)
theorem jF (L : List St) (S : List D3) (ids : List Int) (k : Nat) : (au L S ids (k + 1)).length = (au L S ids k).length + if ids.getD k 0 ≠ 0 then 1 else 0 := by
 rw [ef, List.length_append]
 split <;> rfl
theorem gZ {m k : Nat} (hk : k < (az m).length) : aC (tA (az m) k).1 (tA (az m) k).2.1 (tA (az m) k).2.2.1 (tA (az m) k).2.2.2 = true := by
 have hm : tA (az m) k ∈ az m := by unfold tA; rw [List.getD_eq_getElem?_getD, List.getElem?_eq_getElem hk]; exact List.getElem_mem hk
 generalize tA (az m) k = t at hm ⊢
 unfold az at hm
 exact (List.mem_filter.1 hm).2
theorem mD : 0 < (az 625).length := by
 have h : (tOf 624).1 = 2 := by decide +kernel
 have hg : kA (tOf 563) = true := by decide +kernel
 have hm : tOf 563 ∈ az 625 := by
  unfold az
  rw [List.mem_filter]
  exact ⟨List.mem_map.2 ⟨563, List.mem_range.2 (by omega), rfl⟩, hg⟩
 exact List.length_pos_of_mem hm
end
section
open Go.RowKit Go.Sort
theorem la {a b c d : Int} (h : (inT 1000 a b c d && !fs a b c d) = false) : Value.agg #[.int .i64 (ofP a b c d a), .int .i64 (ofP a b c d b), .int .i64 (ofP a b c d c), .int .i64 (ofP a b c d d), .int .i64 (ofC a b c d)] = Value.agg #[.int .i64 0, .int .i64 0, .int .i64 0, .int .i64 0, .int .i64 1] := by
 unfold ofP
 rw [tU h]
 rfl
theorem oM {a b c d : Int} (h1 : inT 1000 a b c d = true) (h2 : fs a b c d = false) (h : aC (a.tdiv (sT a b c d)) (b.tdiv (sT a b c d)) (c.tdiv (sT a b c d)) (d.tdiv (sT a b c d)) = false) : Value.agg #[.int .i64 (ofP a b c d a), .int .i64 (ofP a b c d b), .int .i64 (ofP a b c d c), .int .i64 (ofP a b c d d), .int .i64 (ofC a b c d)] = Value.agg #[.int .i64 0, .int .i64 0, .int .i64 0, .int .i64 0, .int .i64 9] := by
 have e : ofC a b c d = 9 := by unfold ofC; rw [h1, h2, h]; rfl
 unfold ofP
 rw [e]
 rfl
theorem tV {a b c d : Int} (h1 : inT 1000 a b c d = true) (h2 : fs a b c d = false) (h : aC (a.tdiv (sT a b c d)) (b.tdiv (sT a b c d)) (c.tdiv (sT a b c d)) (d.tdiv (sT a b c d)) = true) : Value.agg #[.int .i64 (ofP a b c d a), .int .i64 (ofP a b c d b), .int .i64 (ofP a b c d c), .int .i64 (ofP a b c d d), .int .i64 (ofC a b c d)] = Value.agg #[.int .i64 (a.tdiv (sT a b c d)), .int .i64 (b.tdiv (sT a b c d)), .int .i64 (c.tdiv (sT a b c d)), .int .i64 (d.tdiv (sT a b c d)), .int .i64 0] := by
 have e : ofC a b c d = 0 := by unfold ofC; rw [h1, h2, h]; rfl
 unfold ofP
 rw [e]
 rfl
theorem rg (a b c d : Int) (w : World) :
  Calls Tryz.prog 106 #[.int .i64 a, .int .i64 b, .int .i64 c, .int .i64 d] w fun e w' => e = .returned (.agg #[.int .i64 (ofP a b c d a), .int .i64 (ofP a b c d b), .int .i64 (ofP a b c d c), .int .i64 (ofP a b c d d), .int .i64 (ofC a b c d)]) ∧ Below w.heap.size w w' := by
 have he := fun w => jl a b c d 0 0 0 0 w
 cases hz : eqT a b c d 0 0 0 0
 ·rw [hz] at he
  have HZ := yz (show fs a b c d = false from hz)
  clear hz
  go_enter Tryz.func106, Tryz.ntmps106
  go_wp2_with fail
  refine (hF 1000 a b c d _ (by omega) (by omega)).mono ?_
  rintro e w1 ⟨rfl, hB1⟩
  have vr : bZ w1 w.heap.size 0 0 0 0 0 := ((cf w 0 0 0 0 0 _).alloc _).kept hB1
  have fr : ft w1 w.heap.size := ((fb w 0 0 0 0 0 _).kept (by simp) (an _ _)).kept (by simp; omega) hB1
  have va : aI w1 (w.heap.size + 1) a b c d := (by simpa using aO (w.alloc _) a b c d _ : aI _ (w.heap.size + 1) a b c d).kept (by simp) hB1
  have hB : Below w.heap.size w w1 := aj (aM _ _ _) hB1
  clear hB1 he
  cases hi : inT 1000 a b c d
  ·have HR := yz (la (a := a) (b := b) (c := c) (d := d) (by rw [hi]; rfl))
   obtain ⟨cr0, cr1, cr2, cr3, cr4⟩ := vr
   obtain ⟨fr0, fr1, fr2, fr3, fr4⟩ := fr
   go_wp2_with fail
   exact bodyPost_ret (v := .agg #[.int .i64 0, .int .i64 0, .int .i64 0, .int .i64 0, .int .i64 1]) (by simp [results, Tryz.results106, go_sem, cr0, cr1, cr2, cr3, cr4]) rfl ⟨by rw [yy HR], aZ hB (by omega) _ _ _ _ _⟩
  ·have hva := va
   obtain ⟨ca0, ca1, ca2, ca3⟩ := va
   go_wp2_with fail
   refine (kE a b c d _ hi (hZ (yy HZ))).mono ?_
   rintro e w2 ⟨rfl, hB2⟩
   have hlt := vr.lt
   replace vr := vr.kept hB2
   replace fr := fr.kept hlt hB2
   replace hB := aj hB hB2
   clear hB2 hva ca0 ca1 ca2 ca3
   cases hr : aC (a.tdiv (sT a b c d)) (b.tdiv (sT a b c d)) (c.tdiv (sT a b c d)) (d.tdiv (sT a b c d))
   ·have HR := yz (oM hi (yy HZ) hr)
    generalize a.tdiv (sT a b c d) = p at hr ⊢
    generalize b.tdiv (sT a b c d) = q at hr ⊢
    generalize c.tdiv (sT a b c d) = r at hr ⊢
    generalize d.tdiv (sT a b c d) = s at hr ⊢
    have vr1 := vr.alloc (.cells #[.int .i64 p, .int .i64 q, .int .i64 r, .int .i64 s] 25)
    have fr1 := fr.kept vr.lt (an w2 (.cells #[.int .i64 p, .int .i64 q, .int .i64 r, .int .i64 s] 25))
    have hB1 := hB.alloc (Nat.le_of_lt (vr.lt)) (.cells #[.int .i64 p, .int .i64 q, .int .i64 r, .int .i64 s] 25)
    go_wp2_with fail
    refine (bw p q r s _).mono ?_
    rintro e w3 ⟨rfl, hB3⟩
    rw [hr]
    have hlt := vr1.lt
    replace vr := vr1.kept hB3
    replace fr := fr1.kept hlt hB3
    replace hB := aj hB1 hB3
    clear hB3 vr1 fr1 hB1
    obtain ⟨cr0, cr1, cr2, cr3, cr4⟩ := vr
    obtain ⟨fr0, fr1, fr2, fr3, fr4⟩ := fr
    go_wp2_with fail
    exact bodyPost_ret (v := .agg #[.int .i64 0, .int .i64 0, .int .i64 0, .int .i64 0, .int .i64 9]) (by simp [results, Tryz.results106, go_sem, cr0, cr1, cr2, cr3, cr4]) rfl ⟨by rw [yy HR], aZ hB (by omega) _ _ _ _ _⟩
   ·have HR := yz (tV hi (yy HZ) hr)
    generalize a.tdiv (sT a b c d) = p at hr HR ⊢
    generalize b.tdiv (sT a b c d) = q at hr HR ⊢
    generalize c.tdiv (sT a b c d) = r at hr HR ⊢
    generalize d.tdiv (sT a b c d) = s at hr HR ⊢
    have vr1 := vr.alloc (.cells #[.int .i64 p, .int .i64 q, .int .i64 r, .int .i64 s] 25)
    have fr1 := fr.kept vr.lt (an w2 (.cells #[.int .i64 p, .int .i64 q, .int .i64 r, .int .i64 s] 25))
    have vt1 := aO w2 p q r s 25
    have hB1 := hB.alloc (Nat.le_of_lt (vr.lt)) (.cells #[.int .i64 p, .int .i64 q, .int .i64 r, .int .i64 s] 25)
    go_wp2_with fail
    refine (bw p q r s _).mono ?_
    rintro e w3 ⟨rfl, hB3⟩
    rw [hr]
    have hlt := vr1.lt
    replace vr := vr1.kept hB3
    replace fr := fr1.kept hlt hB3
    have vt := vt1.kept vt1.lt hB3
    replace hB := aj hB1 hB3
    clear hB3 vr1 fr1 hB1 vt1
    obtain ⟨cr0, cr1, cr2, cr3, cr4⟩ := vr
    obtain ⟨fr0, fr1, fr2, fr3, fr4⟩ := fr
    obtain ⟨ct0, ct1, ct2, ct3⟩ := vt
    go_wp2_with fail
    exact bodyPost_ret (v := .agg #[.int .i64 p, .int .i64 q, .int .i64 r, .int .i64 s, .int .i64 0]) (by simp [results, Tryz.results106, go_sem, cr0, cr1, cr2, cr3, cr4]) rfl ⟨by rw [yy HR], aZ hB (by omega) _ _ _ _ _⟩
 ·rw [hz] at he
  have HR := yz (la (a := a) (b := b) (c := c) (d := d) (by rw [show fs a b c d = true from hz]; simp))
  go_enter Tryz.func106, Tryz.ntmps106
  go_wp2_with fail
  exact bodyPost_ret (v := .agg #[.int .i64 0, .int .i64 0, .int .i64 0, .int .i64 0, .int .i64 1]) (by simp [results, Tryz.results106, go_sem]) rfl ⟨by rw [yy HR], aM _ _ _⟩
end
end Go.Proofs.YtgiodlllokdcdaaGreatDoor
