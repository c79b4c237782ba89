/- Several texts in one: TsA, NaB, NaC, MaB, PairN. -/
import Derived.OwnWalk
import Derived.Laws.OwnMore
import Derived.Deep.RegionHeld
import Derived.WalkMore
import Derived.Test.YtoakkmjcbnfljaaGreatDoorQFnIdentOwn5
import Derived.Test.YtoakkmjcbnfljaaGreatDoorQFnIdentOwn4
import Derived.Test.YtoakkmjcbnfljaaGreatDoorQFnIdentOwn1
import Derived.Test.YtoakkmjcbnfljaaGreatDoorQFnIdentOwn3
namespace Go.Proofs.YtoakkmjcbnfljaaGreatDoor
set_option linter.unusedVariables false
set_option linter.unusedSimpArgs false
set_option maxRecDepth 100000
set_option maxHeartbeats 8000000
section
open Go.RowKit Go.Sort
theorem fc {w w' : World} {B : Nat} {t : TypeId} {v : Value} {n m : Nat} {xs : List Value} (h : w.ownsRow B t m v n xs) (hB : Below w.heap.size w w') : w'.ownsRow B t m v n xs :=
 h.kept (row := none) ⟨hB.os, hB.tape, hB.output, hB.size, fun k hk _ => hB.block k hk⟩ (by cases hv : v.ownBlock <;> simp)
theorem sB {w : World} {B : Nat} {t : TypeId} {v : Value} {n m : Nat} {xs : List Value} (h : w.ownsRow B t m v n xs) : ∃ a c, v = .slice a n c := by
 rcases h.2 with ⟨h1, h0⟩ | ⟨g, cap, cur, hv, _⟩
 ·exact ⟨none, 0, by rw [h1, h0]⟩
 ·exact ⟨_, _, hv⟩
theorem sA {B : Nat} {w w1 w2 : World} {v : Value} {t : TypeId} {n m : Nat} {xs : List Value} (h : Below B w w1) (ho : w1.ownsRow B t m v n xs) (hg : w1.grownBy w2 v.ownBlock) (hB : B ≤ w1.heap.size) : Below B w w2 :=
 h.trans ⟨hg.os, hg.tape, hg.output, hg.size, fun k hk => hg.block k (by omega) (fun e => by have := (ho.lt k e.symm).1; omega)⟩
theorem fs (w : World) (vs : List Value) (t : TypeId) : ∀ (j : Nat) (u : Value), vs[j]? = some u → (w.alloc (.cells vs.toArray t)).cell? ((⟨w.heap.size, 0, none⟩ : Addr).add j) = some u := by
 intro j u hj
 have e : (⟨w.heap.size, 0, none⟩ : Addr).add j = ⟨w.heap.size, j, none⟩ := by cases j <;> simp [Addr.add]
 rw [e]
 simp [hj]
abbrev T4 := Int × Int × Int × Int
theorem mC : (Tryz.prog.info? 34).map (fun i => (i.zero, i.size, i.bytes)) = some (some (.agg #[.int .i64 0, .int .i64 0, .int .i64 0, .int .i64 0]), 4, 32) := by kernel_rfl
def mP (t : T4) : List Value := [.int .i64 t.1, .int .i64 t.2.1, .int .i64 t.2.2.1, .int .i64 t.2.2.2]
def cd (S : List T4) : List Value := S.flatMap mP
theorem mt (A B : List T4) : cd (A ++ B) = cd A ++ cd B := by unfold cd; rw [List.flatMap_append]
theorem kR {S : List T4} {v : Value} (h : v ∈ cd S) : v.oneCell' = true := by
 unfold cd at h
 rw [List.mem_flatMap] at h
 obtain ⟨p, _, hp⟩ := h
 simp [mP] at hp
 rcases hp with rfl | rfl | rfl | rfl <;> rfl
def tOf (n : Nat) : T4 := ((n : Int) / 125 - 2, (n : Int) / 25 % 5 - 2, (n : Int) / 5 % 5 - 2, (n : Int) % 5 - 2)
def jJ (t : T4) : Bool := aC t.1 t.2.1 t.2.2.1 t.2.2.2
def ax (k : Nat) : List T4 := ((List.range k).map tOf).filter jJ
theorem gR (k : Nat) : (ax k).length ≤ k := by
 have h := List.length_filter_le jJ ((List.range k).map tOf)
 rw [List.length_map, List.length_range] at h
 exact h
theorem lN (k : Nat) : ax (k + 1) = ax k ++ (if jJ (tOf k) = true then [tOf k] else []) := by
 unfold ax
 rw [List.range_succ, List.map_append, List.filter_append]
 congr 1
 cases h : jJ (tOf k)
 ·rw [List.map_singleton, List.filter_cons_of_neg (by simp [h])]; rfl
 ·rw [List.map_singleton, List.filter_cons_of_pos h]; rfl
theorem ur (a b c d : Nat) (hb : b < 5) (hc : c < 5) (hd : d < 5) : tOf (a * 125 + b * 25 + c * 5 + d) = ((a : Int) - 2, (b : Int) - 2, (c : Int) - 2, (d : Int) - 2) := by
 unfold tOf
 have e1 : ((a * 125 + b * 25 + c * 5 + d : Nat) : Int) / 125 = a := by omega
 have e2 : ((a * 125 + b * 25 + c * 5 + d : Nat) : Int) / 25 % 5 = b := by omega
 have e3 : ((a * 125 + b * 25 + c * 5 + d : Nat) : Int) / 5 % 5 = c := by omega
 have e4 : ((a * 125 + b * 25 + c * 5 + d : Nat) : Int) % 5 = d := by omega
 rw [e1, e2, e3, e4]
theorem ru (w : World) (B : Nat) (h : B ≤ w.heap.size) : (w.alloc (.cells #[] 34)).ownsRow B 34 4 (.slice (some ⟨w.heap.size, 0, none⟩) 0 0) 0 (cd []) :=
 ⟨rfl, .inr ⟨_, 0, #[], rfl, h, Array.getElem?_push_size, Nat.le_refl _, Nat.zero_le _, rfl, rfl⟩⟩
theorem lQ (w : World) :
  Calls Tryz.prog 41 #[] w fun e w' => (∃ v, e = .returned v ∧ w'.ownsRow w.heap.size 34 4 v (ax 625).length (cd (ax 625))) ∧ Below w.heap.size w w' := by
 obtain ⟨i0, hinf, hz0, hz1, hz2⟩ := info_parts mC
 have hm8 : 1000 ≤ maxLen := by decide +kernel
 go_enter Tryz.func41, Tryz.ntmps41
 go_wp2_with fail
 go_loopw [1, 4] (fun v kk wr => ∃ k : Nat, k ≤ 625 ∧ kk = .int .i64 k ∧ Hid (wr.ownsRow w.heap.size 34 4 v (ax k).length (cd (ax k))) ∧ Hid (Below w.heap.size w wr)) (fun _ kk _ => 625 - (intOf kk).toNat)
 case atStart => exact ⟨0, by omega, rfl, yz (World.ownsRow_nil _ _ _ _), yz (Below.refl _ _)⟩
 case round =>
  obtain ⟨k, hk, rfl, HO, HB⟩ := hrel
  by_cases hkn : k < 625
  ·have hkn2 : (k : Int) < 625 := by omega
   have HSN : Hid (ax (k + 1) = ax k ++ (if jJ ((k : Int) / 125 - 2, (k : Int) / 25 % 5 - 2, (k : Int) / 5 % 5 - 2, (k : Int) % 5 - 2) = true then [((k : Int) / 125 - 2, (k : Int) / 25 % 5 - 2, (k : Int) / 5 % 5 - 2, (k : Int) % 5 - 2)] else [])) := yz (lN k)
   have hpl := gR k
   have Z := ak wr (.cells #[.int .i64 ((k : Int) / 125 - 2), .int .i64 ((k : Int) / 25 % 5 - 2), .int .i64 ((k : Int) / 5 % 5 - 2), .int .i64 ((k : Int) % 5 - 2)] 34)
   have HB1 := yz (aj (yy HB) Z)
   have HO1 := yz (fc (yy HO) Z)
   have TA1 := aT wr ((k : Int) / 125 - 2) ((k : Int) / 25 % 5 - 2) ((k : Int) / 5 % 5 - 2) ((k : Int) % 5 - 2) 34
   clear Z HO HB
   go_wp2_with fail
   generalize (k : Int) / 125 - 2 = p at *
   generalize (k : Int) / 25 % 5 - 2 = q at *
   generalize (k : Int) / 5 % 5 - 2 = r at *
   generalize (k : Int) % 5 - 2 = s at *
   generalize wr.alloc (.cells #[.int .i64 p, .int .i64 q, .int .i64 r, .int .i64 s] 34) = W1 at HB1 HO1 TA1 ⊢
   refine (fh p q r s _).mono ?_
   rintro e W2 ⟨rfl, hx⟩
   have TA2 := TA1.kept TA1.lt hx
   have HB2 := yz (aj (yy HB1) hx)
   have HO2 := yz (fc (yy HO1) hx)
   clear hx TA1 HB1 HO1
   have HG : Hid (jJ (p, q, r, s) = aC p q r s) := yz rfl
   generalize wr.heap.size = tb at *
   cases hr : aC p q r s
   ·rw [hr] at HG
    rw [yy HG, if_neg (by simp), List.append_nil] at HSN
    have HO3 : Hid (W2.ownsRow w.heap.size 34 4 u1 (ax (k + 1)).length (cd (ax (k + 1)))) := yz (by rw [yy HSN]; exact yy HO2)
    go_wp2_with fail
    go_roundw
    case rel => exact ⟨k + 1, by omega, by go_num, HO3, HB2⟩
    case measure => simp [intOf] <;> omega
   ·rw [hr] at HG
    rw [yy HG, if_pos rfl] at HSN
    obtain ⟨e0, e1, e2, e3⟩ := TA2
    have Z1 := ak W2 (.cells #[.int .i64 p, .int .i64 q, .int .i64 r, .int .i64 s] 34)
    have hown := fc (yy HO2) Z1
    have B3 := aj (yy HB2) Z1
    have hsz := (yy HB2).size
    clear Z1 HO2 HB2
    generalize ax k = Pk at *
    go_wp2_with (at_builtin; refine wpList_append_own _ rfl _ _ 77 rfl w.heap.size 34 i0 (.agg #[.int .i64 0, .int .i64 0, .int .i64 0, .int .i64 0]) 4 32 Tryz.underlying77 hinf hz0 hz1 hz2 rfl (by decide) _ _ _ rfl hown ⟨W2.heap.size, 0, none⟩ 1 1 (cd [(p, q, r, s)]) rfl rfl ?d2 (fun u hu => kR hu) ?d3 ?d4 ?d5 ?_)
    case d2 => first | exact fun j u h => h | exact fs _ _ _
    case d3 => omega
    case d4 => omega
    case d5 => first | omega | (simp; omega)
    intro v7 V7 hown7 hgrow7 _
    have HB8 := yz (sA B3 hown hgrow7 (by simp; omega))
    have HO8 : Hid (V7.ownsRow w.heap.size 34 4 v7 (ax (k + 1)).length (cd (ax (k + 1)))) := yz (by rw [yy HSN, mt, List.length_append]; exact hown7)
    clear hown7 hgrow7 hown B3 e0 e1 e2 e3
    go_wp2_with fail
    go_roundw
    case rel => exact ⟨k + 1, by omega, by go_num, HO8, HB8⟩
    case measure => simp [intOf] <;> omega
  ·have hke : k = 625 := by omega
   subst hke
   go_wp2_with fail
   go_ret
   exact ⟨⟨_, rfl, yy HO⟩, yy HB⟩
end
section
open Go.RowKit Go.Sort
theorem iY {P : Program} {ops : Array Oper} {o : Oper} {a : Act} {w : World} {K : Act → World → Prop} {Q : Exit → Act → World → Prop} {E : Prop} (hgd : o.guard = none) (s x : Operand) (t : TypeId)
  (ho : o.op = .call { callee := .builtin .append, args := #[s, x], argTypes := #[t, t] })
  (base : Nat) (e : TypeId) (i : TypeInfo) (z : Value) (size bytes : Nat) (ht : P.underlying t = some (.slice e)) (hi : P.info? e = some i) (hz : i.zero = some z)
  (hsize : i.size = size) (hby : i.bytes = bytes) (hzs : z.cells.size = size) (hsz : 0 < size)
  (v : Value) (n : Nat) (xs : List Value) (hs : a.eval s = v) (hown : w.ownsRow base e size v n xs)
  (ad : Addr) (m c : Nat) (news : List Value) (hx : a.eval x = .slice (some ad) m c) (hl : news.length = m * size) (hnews : ∀ j u, news[j]? = some u → w.cell? (ad.add j) = some u) (h1 : ∀ u ∈ news, u.oneCell' = true)
  (h63 : n + m ≤ maxLen) (hbytes : (n + m) * bytes ≤ 140737488355328) (hbase : base ≤ w.heap.size)
  (h : ∀ v' w', w'.ownsRow base e size v' (n + m) (xs ++ news) → w.grownBy w' v.ownBlock → K (a.put o.dst v') w') : if Region.wanted o (yielded ops a.tmps) = true then Oper.wp P o a w K Q else E := by
 have hw : Region.wanted o (yielded ops a.tmps) = true := by simp [Region.wanted, hgd]
 rw [if_pos hw]
 exact wp_append_own w s x t ho base e i z size bytes ht hi hz hsize hby hzs hsz v n xs hs hown ad m c news hx hl hnews h1 h63 hbytes hbase fun v' w' h2 h3 _ => h v' w' h2 h3
theorem cu {w w' : World} {a : Addr} {v : Value} (h : w.cell? a = some v) (hB : Below w.heap.size w w') : w'.cell? a = some v := (hB.cell (World.block_lt_of_cell? w a h)).trans h
theorem bq {w w' : World} {a : Addr} {v : Value} {row : Option Nat} (h : w.cell? a = some v) (hg : w.grownBy w' row) (hne : some a.block ≠ row) : w'.cell? a = some v := (World.cell?_of_block (hg.block a.block (World.block_lt_of_cell? w a h) hne)).trans h
theorem kZ : (Tryz.prog.info? 71).map (fun i => (i.zero, i.size, i.bytes)) = some (some (.agg #[.int .i64 0, .int .i64 0, .int .i64 0, .int .i64 0, .int .i64 0, .int .i64 0, .int .i64 0]), 7, 56) := by kernel_rfl
def bG (S : List Sg) : List Value := S.flatMap sgL
theorem kN (A B : List Sg) : bG (A ++ B) = bG A ++ bG B := by unfold bG; rw [List.flatMap_append]
theorem jG {S : List Sg} {v : Value} (h : v ∈ bG S) : v.oneCell' = true := by
 unfold bG at h
 rw [List.mem_flatMap] at h
 obtain ⟨p, _, hp⟩ := h
 simp [sgL] at hp
 rcases hp with rfl | rfl | rfl | rfl | rfl | rfl | rfl <;> rfl
theorem qU : ∀ (S : List Sg) (k : Nat) (b : Sg), S[k]? = some b → ∀ j u, (sgL b)[j]? = some u → (bG S)[k * 7 + j]? = some u := by
 intro S
 induction S with
 | nil => intro k b h; simp at h
 | cons x S ih =>
  intro k b h j u hu
  have e : bG (x :: S) = sgL x ++ bG S := by unfold bG; simp
  have hj : j < 7 := (List.getElem?_eq_some_iff.1 hu).1
  rw [e]
  cases k with
  | zero =>
   simp at h
   subst h
   rw [List.getElem?_append_left (by show _ < 7; omega)]
   simpa using hu
  | succ k =>
   rw [List.getElem?_append_right (by show 7 ≤ _; omega)]
   rw [show (k + 1) * 7 + j - (sgL x).length = k * 7 + j by show _ - 7 = _; omega]
   exact ih k b (by simpa using h) j u hu
theorem iA {w : World} {B : Nat} {a : Option Addr} {c : Nat} {A : List Sg} (h : w.ownsRow B 71 7 (.slice a A.length c) A.length (bG A)) : dv w a A A.length := by
 rcases h.2 with ⟨h1, h0⟩ | ⟨g, cap, cur, hv, hb, hg, hnc, hcm, hcs, htake⟩
 ·exact .inl h0
 ·injection hv with e1 e2 e3
  refine .inr ⟨g, 0, e1, (Array.getElem?_eq_some_iff.1 hg).1, fun k hk => ?_⟩
  have hk' : A[k]? = some (sgA A k) := by unfold sgA; rw [List.getD_eq_getElem?_getD, List.getElem?_eq_getElem hk]; rfl
  have cl : ∀ j u, (sgL (sgA A k))[j]? = some u → w.cell? ⟨g, 0 + k * 7 + j, none⟩ = some u := by
   intro j u hu
   have hj : j < 7 := (List.getElem?_eq_some_iff.1 hu).1
   have e := qU A k _ hk' j u hu
   rw [cell_of_row w g _ cur _ _ hg]
   rw [← htake, List.getElem?_take, if_pos (by omega)] at e
   rw [Nat.zero_add]
   simpa using e
  exact ⟨cl 0 _ rfl, cl 1 _ rfl, cl 2 _ rfl, cl 3 _ rfl, cl 4 _ rfl, cl 5 _ rfl, cl 6 _ rfl⟩
theorem iQ {w : World} {B : Nat} {a : Option Addr} {c n m : Nat} {t : TypeId} {xs : List Value} (h : w.ownsRow B t m (.slice a n c) n xs) (hm : 0 < m) : n ≤ c := by
 rcases h.2 with ⟨h1, h0⟩ | ⟨g, cap, cur, hv, hb, hg, hnc, hcm, hcs, htake⟩
 ·injection h1 with _ e2 e3
  omega
 ·injection hv with e1 e2 e3
  omega
theorem iV (L : List St) (S : List D3) (ids : List Int) (n : Nat) (ar br ir : Option Addr) (cr dr er : Nat) (p : Addr) (w : World) (hk : aL L = true) (hn : L.length ≤ 1048576) (hcap : L.length ≤ cr) (hc9 : cr ≤ 9223372036854775807) (hm : S.length ≤ 6) (hl : n = S.length) (hS : aJ w ar L L.length) (hD : bi w br S S.length) (hI : bF w ir ids n) (hE : bg p w) :
  Calls Tryz.prog 34 #[.slice ar L.length cr, .slice br S.length dr, .slice ir n er] w fun e w' => (∃ v, e = .returned v ∧ w'.ownsRow w.heap.size 71 7 v (ap L S ids n).length (bG (ap L S ids n))) ∧ Below w.heap.size w w' := by
 obtain ⟨i0, hinf, hz0, hz1, hz2⟩ := info_parts kZ
 have hm8 : 1000 ≤ maxLen := by decide +kernel
 have cA := yz (fun (W : World) (id : Int) hW hE => pV L id ar cr p W hn hcap hc9 hW hE)
 have HAT : Hid (∀ id, fx L id = atV L L.length id) := yz (fun id => by unfold fx; rw [if_pos hk])
 have HS := yz hS
 have HD := yz hD
 have HE := yz hE
 have HN := yz (dL L S ids)
 have HLE := yz (eU L S ids)
 have HSO : Hid (∀ i, aY L S ids i = (vA S i, (ids.getD i 0, atV L L.length (ids.getD i 0)))) := yz (fun i => rfl)
 clear hS hD hE hk hcap hc9
 generalize hme : S.length = m at *
 subst hl
 generalize L.length = ln at *
 rcases hI with rfl | ⟨ib, io, rfl, hib, hic⟩
 ·go_enter Tryz.func34, Tryz.ntmps34
  go_wp2_with fail
  refine wp_loop_rounds 1 ?_
  rw [rounds_succ]
  go_wp2_with fail
  go_ret
  exact ⟨⟨_, rfl, World.ownsRow_nil _ _ _ _⟩, Below.refl _ _⟩
 have HIC := yz hic
 clear hic
 go_enter Tryz.func34, Tryz.ntmps34
 go_wp2_with fail
 go_loopw [7, 13] (fun v kk wr => ∃ i : Nat, i ≤ n ∧ kk = .int .i64 i ∧ Hid (wr.ownsRow w.heap.size 71 7 v (ap L S ids i).length (bG (ap L S ids i))) ∧ Hid (Below w.heap.size w wr)) (fun _ kk _ => n - (intOf kk).toNat)
 case atStart => exact ⟨0, by omega, rfl, yz (World.ownsRow_nil _ _ _ _), yz (Below.refl _ _)⟩
 case round =>
  obtain ⟨i, hi, rfl, HO, HB⟩ := hrel
  by_cases hin : i < n
  ·have hin2 : (i : Int) < (n : Int) := by omega
   have ci : wr.cell? ⟨ib, io + i, none⟩ = some (.int .i64 (ids.getD i 0)) := by rw [(yy HB).cell (p := ⟨ib, io + i, none⟩) hib]; exact yy HIC i hin
   have HSN := yz (yy HN i)
   have HSI := yz (yy HSO i)
   have hle := yy HLE i
   generalize ids.getD i 0 = id at *
   by_cases hid : id = 0
   ·subst hid
    rw [if_neg (by simp), List.append_nil] at HSN
    have HO3 : Hid (wr.ownsRow w.heap.size 71 7 u7 (ap L S ids (i + 1)).length (bG (ap L S ids (i + 1)))) := yz (by rw [yy HSN]; exact yy HO)
    go_wp2_with fail
    go_roundw
    case rel => exact ⟨i + 1, by omega, by go_num, HO3, HB⟩
    case measure => simp [intOf] <;> omega
   ·have hid' : (id == 0) = false := by simp [hid]
    rw [if_pos hid] at HSN
    rw [yy HSI] at HSN
    clear HSI
    have cA' := yz (fun (W : World) hW hE => yy cA W id hW hE)
    rw [yy HAT id] at cA'
    generalize atV L ln id = q at *
    obtain ⟨q1, q2, q3⟩ := q
    go_wp2_with fail
    refine (yy cA' _ ((yy HS).kept (yy HB)) ((yy HE).kept (yy HB))).mono ?_
    rintro e W1 ⟨rfl, hx⟩
    unfold mb
    simp only
    have HO1 := fc (yy HO) hx
    have HB1 := aj (yy HB) hx
    clear hx HO HB cA'
    have HU : Hid (∀ z, u7.ownBlock = some z → w.heap.size ≤ z ∧ z < W1.heap.size) := yz (fun z e => HO1.lt z e)
    have Z := ak W1 (.cells #[.int .i64 id, .int .i64 q1, .int .i64 q2, .int .i64 q3] 69)
    have HO2 := yz (fc HO1 Z)
    have HB2 := yz (aj HB1 Z)
    have N2 := yz (ea W1 (id, q1, q2, q3) 69)
    clear Z HO1 HB1 ci
    go_wp2_with fail
    generalize W1.alloc (.cells #[.int .i64 id, .int .i64 q1, .int .i64 q2, .int .i64 q3] 69) = W2 at HO2 HB2 N2 ⊢
    generalize W1.heap.size = tb at *
    rcases yy HD with h | ⟨bb, bo, rfl, hbb, hbc⟩
    ·omega
    have hst := (hbc i hin).kept hbb (yy HB2)
    clear hbc
    generalize vA S i = sv at *
    obtain ⟨v1, v2, v3⟩ := sv
    obtain ⟨c0, c1, c2⟩ := hst
    obtain ⟨d0, d1, d2, d3⟩ := yy N2
    simp only [Nat.zero_add] at d0 d1 d2 d3
    simp only at c0 c1 c2
    refine wp_region_held_drew (S := (fun w' => (w'.cell? ⟨bb, bo + i * 3, none⟩ = some (.int .i64 v1) ∧ w'.cell? ⟨bb, bo + i * 3 + 1, none⟩ = some (.int .i64 v2) ∧ w'.cell? ⟨bb, bo + i * 3 + 2, none⟩ = some (.int .i64 v3)) ∧ w'.cell? ⟨tb, 0, none⟩ = some (.int .i64 id) ∧ w'.cell? ⟨tb, 1, none⟩ = some (.int .i64 q1) ∧ w'.cell? ⟨tb, 2, none⟩ = some (.int .i64 q2) ∧ w'.cell? ⟨tb, 3, none⟩ = some (.int .i64 q3))) (by kernel_rfl) ?_ (fun hHeld => ?_)
    ·exact ⟨⟨c0, c1, c2⟩, d0, d1, d2, d3⟩
    refine ab 0 rfl ?_
    try simp only [Act.put, ag, ah, ai]
    refine ab 1 rfl ?_
    try simp only [Act.put, ag, ah, ai]
    refine ab 2 rfl ?_
    try simp only [Act.put, ag, ah, ai]
    refine ab 3 rfl ?_
    try simp only [Act.put, ag, ah, ai]
    refine ab 4 rfl ?_
    try simp only [Act.put, ag, ah, ai]
    refine ab 5 rfl ?_
    try simp only [Act.put, ag, ah, ai]
    refine ab 6 rfl ?_
    try simp only [Act.put, ag, ah, ai]
    have HOd : W2.drew.ownsRow w.heap.size 71 7 u7 (ap L S ids i).length (bG (ap L S ids i)) := yy HO2
    have HBd := (yy HB2).drew
    have hbs : w.heap.size ≤ W2.drew.heap.size := HBd.size
    have hbs2 : w.heap.size ≤ W2.heap.size := hbs
    have c0d : W2.drew.cell? ⟨bb, bo + i * 3, none⟩ = some (.int .i64 v1) := c0
    have c1d : W2.drew.cell? ⟨bb, bo + i * 3 + 1, none⟩ = some (.int .i64 v2) := c1
    have c2d : W2.drew.cell? ⟨bb, bo + i * 3 + 2, none⟩ = some (.int .i64 v3) := c2
    have d0d : W2.drew.cell? ⟨tb, 0, none⟩ = some (.int .i64 id) := d0
    have d1d : W2.drew.cell? ⟨tb, 1, none⟩ = some (.int .i64 q1) := d1
    have d2d : W2.drew.cell? ⟨tb, 2, none⟩ = some (.int .i64 q2) := d2
    have d3d : W2.drew.cell? ⟨tb, 3, none⟩ = some (.int .i64 q3) := d3
    clear c0 c1 c2 d0 d1 d2 d3
    refine ae 7 rfl fun K hK => ?_
    go_simp
    have Z5 := ak W2.drew (.cells #[.int .i64 v1, .int .i64 v2, .int .i64 v3, .int .i64 id, .int .i64 q1, .int .i64 q2, .int .i64 q3] 71)
    have hown := fc HOd Z5
    have B5 := aj HBd Z5
    have c0 := cu c0d Z5
    have c1 := cu c1d Z5
    have c2 := cu c2d Z5
    have d0 := cu d0d Z5
    have d1 := cu d1d Z5
    have d2 := cu d2d Z5
    have d3 := cu d3d Z5
    clear Z5 c0d c1d c2d d0d d1d d2d d3d HOd HBd
    refine hK.out _ _ ?_ (fun hHeld3 => ?_)
    ·exact ⟨⟨c0, c1, c2⟩, d0, d1, d2, d3⟩
    clear hK K hHeld
    refine ae 8 rfl fun K hK => ?_
    refine iY rfl _ _ 64 rfl w.heap.size 71 i0 (.agg #[.int .i64 0, .int .i64 0, .int .i64 0, .int .i64 0, .int .i64 0, .int .i64 0, .int .i64 0]) 7 56 Tryz.underlying64 hinf hz0 hz1 hz2 rfl (by decide) _ _ _ rfl hown ⟨W2.drew.heap.size, 0, none⟩ 1 1 (bG [((v1, v2, v3), (id, q1, q2, q3))]) rfl rfl ?d2 (fun u hu => jG hu) ?d3 ?d4 ?d5 ?_
    case d2 => first | exact fun j u h => h | exact fs _ _ _
    case d3 => omega
    case d4 => omega
    case d5 => first | omega | (simp; omega)
    intro v7 V7 hown7 hgrow7
    have neb : ∀ z, z < w.heap.size ∨ tb ≤ z → some z ≠ u7.ownBlock := fun z hz e => by have := yy HU z e.symm; omega
    have HB8 : Hid (Below w.heap.size w V7) := yz (B5.trans ⟨hgrow7.os, hgrow7.tape, hgrow7.output, hgrow7.size, fun z hz => hgrow7.block z (by simp; omega) (neb z (.inl hz))⟩)
    have c0' := bq c0 hgrow7 (neb _ (.inl hbb))
    have c1' := bq c1 hgrow7 (neb _ (.inl hbb))
    have c2' := bq c2 hgrow7 (neb _ (.inl hbb))
    have d0' := bq d0 hgrow7 (neb _ (.inr (Nat.le_refl _)))
    have d1' := bq d1 hgrow7 (neb _ (.inr (Nat.le_refl _)))
    have d2' := bq d2 hgrow7 (neb _ (.inr (Nat.le_refl _)))
    have d3' := bq d3 hgrow7 (neb _ (.inr (Nat.le_refl _)))
    have HO8 : Hid (V7.ownsRow w.heap.size 71 7 v7 (ap L S ids (i + 1)).length (bG (ap L S ids (i + 1)))) := yz (by rw [yy HSN, kN, List.length_append]; exact hown7)
    clear hown7 hgrow7 hown B5 c0 c1 c2 d0 d1 d2 d3 neb
    refine hK.out _ _ ?_ (fun hHeld4 => ?_)
    ·exact ⟨⟨c0', c1', c2'⟩, d0', d1', d2', d3'⟩
    clear hK K hHeld3
    refine ae 9 rfl fun K hK => ?_
    go_simp
    refine hK.out _ _ ?_ (fun hHeld5 => ?_)
    ·exact ⟨⟨c0', c1', c2'⟩, d0', d1', d2', d3'⟩
    clear hK K hHeld4
    refine wpAnyH_done (by kernel_rfl) ?_ _
    clear c0' c1' c2' d0' d1' d2' d3' hHeld5
    go_wp2_with fail
    go_roundw
    case rel => exact ⟨i + 1, by omega, by go_num, HO8, HB8⟩
    case measure => simp [intOf] <;> omega
  ·have hin' : i = n := by omega
   subst hin'
   go_wp2_with fail
   go_ret
   exact ⟨⟨_, rfl, yy HO⟩, yy HB⟩
end
section
open Go.RowKit Go.Sort
theorem jr {L : List St} {S : List D3} {ids : List Int} (h : aL L = false) : aN L S ids = false := by unfold aN; rw [h]; rfl
theorem gH {L : List St} {S : List D3} {ids : List Int} (h : aM S = false) : aN L S ids = false := by unfold aN; rw [h, Bool.and_false]; rfl
theorem mG {L : List St} {S : List D3} {ids : List Int} (h : ids.length ≠ S.length) : aN L S ids = false := by unfold aN; rw [decide_eq_false h, Bool.and_false]; rfl
theorem rm {L : List St} {S : List D3} {ids : List Int} (h1 : aL L = true) (h2 : aM S = true) (h3 : ids.length = S.length) : aN L S ids = dg (ap L S ids ids.length) (ap L S ids ids.length).length := by unfold aN; rw [h1, h2, decide_eq_true h3]; rfl
theorem pq {A : List Sg} {n : Nat} (h : ∀ i, i < n → (!du (sgA A i).2.2 && cx A (sgA A i) i) = true) : dg A n = true := by
 unfold dg
 rw [List.all_eq_true]
 exact fun i hi => h i (List.mem_range.1 hi)
theorem mg {A : List Sg} {n i : Nat} (hi : i < n) (h : (!du (sgA A i).2.2 && cx A (sgA A i) i) = false) : dg A n = false := by
 unfold dg
 rw [List.all_eq_false]
 exact ⟨i, List.mem_range.2 hi, by rw [h]; simp⟩
theorem lj {w : World} {B : Nat} {a : Option Addr} {c n m : Nat} {t : TypeId} {xs : List Value} (h : w.ownsRow B t m (.slice a n c) n xs) : c ≤ maxLen := by
 rcases h.2 with ⟨h1, h0⟩ | ⟨g, cap, cur, hv, hb, hg, hnc, hcm, hcs, htake⟩
 ·injection h1 with _ e2 e3
  omega
 ·injection hv with e1 e2 e3
  omega
theorem ec (L : List St) (S : List D3) (ids : List Int) (ar br ir : Option Addr) (cr dr er : Nat) (p : Addr) (w : World) (hn : L.length ≤ 1048576) (hcap : L.length ≤ cr) (hc9 : cr ≤ 9223372036854775807) (hn2 : S.length ≤ 1048576) (hcap2 : S.length ≤ dr) (hd9 : dr ≤ 9223372036854775807) (hn3 : ids.length ≤ 1048576) (hS : aJ w ar L L.length) (hD : bi w br S S.length) (hI : bF w ir ids ids.length) (hE : bg p w) :
  Calls Tryz.prog 11 #[.slice ar L.length cr, .slice br S.length dr, .slice ir ids.length er] w fun e w' => e = .returned (.bool (aN L S ids)) ∧ Below w.heap.size w w' := by
 have cK := yz (fun (W : World) hW hE => eD L ar cr p W hn hcap hc9 hW hE)
 have cP := yz (fun (W : World) hW => dS S br dr W hn2 hcap2 hd9 hW)
 have cO : Hid (aL L = true → S.length ≤ 6 → ids.length = S.length → ∀ W : World, aJ W ar L L.length → bi W br S S.length → bF W ir ids ids.length → bg p W → Calls Tryz.prog 34 #[.slice ar L.length cr, .slice br S.length dr, .slice ir ids.length er] W fun e w' => (∃ v, e = .returned v ∧ w'.ownsRow W.heap.size 71 7 v (ap L S ids ids.length).length (bG (ap L S ids ids.length))) ∧ Below W.heap.size W w') := yz (fun hk hm hl W h1 h2 h3 h4 => iV L S ids ids.length ar br ir cr dr er p W hk hn hcap hc9 hm hl h1 h2 h3 h4)
 have H1 : Hid (aL L = false → aN L S ids = false) := yz jr
 have H2 : Hid (aM S = false → aN L S ids = false) := yz gH
 have H3 : Hid (ids.length ≠ S.length → aN L S ids = false) := yz mG
 have H4 : Hid (aL L = true → aM S = true → ids.length = S.length → aN L S ids = dg (ap L S ids ids.length) (ap L S ids ids.length).length) := yz rm
 have H6 : Hid (aM S = true → S.length ≤ 6) := yz (fun h => (bc h).1)
 have hAL := eU L S ids ids.length
 have HS := yz hS
 have HD := yz hD
 have HI := yz hI
 have HE := yz hE
 clear hS hD hI hE
 generalize aN L S ids = R at *
 generalize ap L S ids ids.length = A at *
 generalize S.length = m at *
 generalize ids.length = k at *
 generalize L.length = n at *
 go_enter Tryz.func11, Tryz.ntmps11
 go_wp2_with fail
 refine (yy cK _ (yy HS) (yy HE)).mono ?_
 rintro e W1 ⟨rfl, hx⟩
 have B1 := yz hx
 clear hx
 cases hk : aL L
 ·obtain rfl := yy H1 hk
  go_wp2_with fail
  go_ret
  exact ⟨rfl, yy B1⟩
 go_wp2_with fail
 refine (yy cP _ ((yy HD).kept (yy B1))).mono ?_
 rintro e W2 ⟨rfl, hx⟩
 have B2 := yz (aj (yy B1) hx)
 clear hx B1
 cases hp : aM S
 ·obtain rfl := yy H2 hp
  go_wp2_with fail
  go_ret
  exact ⟨rfl, yy B2⟩
 by_cases hl0 : k ≠ m
 ·obtain rfl := yy H3 hl0
  have hl' : ¬ (k : Int) = (m : Int) := by omega
  have hl2 : ((k : Int) == (m : Int)) = false := by simp; omega
  go_wp2_with fail
  go_ret
  exact ⟨rfl, yy B2⟩
 have hl : k = m := Decidable.not_not.1 hl0
 clear hl0
 have HR := yz (yy H4 hk hp hl)
 have hm6 := yy H6 hp
 have cO' := yz (yy cO hk hm6 hl)
 subst hl
 clear hk hp H1 H2 H3 H4 H6 cK cP cO
 go_wp2_with fail
 refine (yy cO' _ ((yy HS).kept (yy B2)) ((yy HD).kept (yy B2)) ((yy HI).kept (yy B2)) ((yy HE).kept (yy B2))).mono ?_
 rintro e W3 ⟨⟨v3, rfl, ho⟩, hx⟩
 obtain ⟨a3, c3, rfl⟩ := sB ho
 have hcap3 := iQ ho (by omega)
 have HSG := yz (iA ho)
 have B3 := yz (aj (yy B2) hx)
 have hc39 : c3 ≤ 9223372036854775807 := Nat.le_trans (lj ho) (by decide +kernel)
 clear ho hx B2 cO'
 generalize hal : A.length = al at *
 clear hal
 have cF : Hid (∀ (s : Sg) (i : Nat) (a : Option Addr) (W : World), i ≤ al → dv W a A i → Calls Tryz.prog 35 #[sgV s, .slice a i c3] W fun e w' => e = .returned (.bool (cx A s i)) ∧ Below W.heap.size W w') := yz (fun s i a W hi hs => fY A i s a c3 W (by omega) (by omega) hc39 hs)
 go_wp2_with fail
 rcases yy HSG with h0 | ⟨sb, so, rfl, hsb, hsc⟩
 ·subst h0
  have HY : Hid (R = true) := yz (by rw [yy HR]; rfl)
  refine wp_loop_rounds 1 ?_
  rw [rounds_succ]
  go_wp2_with fail
  go_ret
  exact ⟨by rw [yy HY]; rfl, yy B3⟩
 have HSC := yz hsc
 clear hsc
 have hsb3 : sb < W3.heap.size := hsb
 go_loopw [31] (fun kk wr => ∃ i : Nat, i ≤ al ∧ kk = .int .i64 i ∧ Hid (∀ j, j < i → (!du (sgA A j).2.2 && cx A (sgA A j) j) = true) ∧ Hid (Below W3.heap.size W3 wr)) (fun kk _ => al - (intOf kk).toNat)
 case atStart => exact ⟨0, by omega, rfl, yz (fun j hj => absurd hj (Nat.not_lt_zero _)), yz (Below.refl _ _)⟩
 case round =>
  obtain ⟨i, hi, rfl, HF, HB⟩ := hrel
  by_cases hin : i < al
  ·have hin2 : (i : Int) < (al : Int) := by omega
   obtain ⟨t, ht⟩ : ∃ t, sgA A i = t := ⟨_, rfl⟩
   have hst := ((yy HSC) i hin).kept (yy HB)
   rw [ht] at hst
   have HT := yz ht
   clear ht
   have HSi : Hid (dv wr (some ⟨sb, so, none⟩) A i) := yz ((((yy HSG).less (Nat.le_of_lt hin))).kept (yy HB))
   have cFi := yz (fun W h => yy cF t i (some ⟨sb, so, none⟩) W (Nat.le_of_lt hin) h)
   have HOK : Hid ((!du (sgA A i).2.2 && cx A (sgA A i) i) = (!du t.2.2 && cx A t i)) := yz (by rw [yy HT])
   have Z := ak wr (.cells #[.int .i64 t.1.1, .int .i64 t.1.2.1, .int .i64 t.1.2.2, .int .i64 t.2.1, .int .i64 t.2.2.1, .int .i64 t.2.2.2.1, .int .i64 t.2.2.2.2] 71)
   have T1 := dR wr t 71
   have HB1 := yz (aj (yy HB) Z)
   have HS1 := yz ((yy HSi).kept Z)
   clear Z HB HSi
   generalize hfv : cx A t i = fv at *
   clear hfv
   obtain ⟨⟨b1, b2, b3⟩, b4, b5, b6, b7⟩ := t
   have cFj : Hid (∀ (W : World), dv W (some ⟨sb, so, none⟩) A i → Calls Tryz.prog 35 #[.agg #[.int .i64 b1, .int .i64 b2, .int .i64 b3, .int .i64 b4, .int .i64 b5, .int .i64 b6, .int .i64 b7], .slice (some ⟨sb, so, none⟩) i c3] W fun e w' => e = .returned (.bool fv) ∧ Below W.heap.size W w') := cFi
   clear cFi
   have HOK' : Hid ((!du (sgA A i).2.2 && cx A (sgA A i) i) = (!eqB b5 b6 b7 0 0 0 && fv)) := HOK
   clear HOK
   have he := fun W => ko b5 b6 b7 0 0 0 W
   obtain ⟨c0, c1, c2, c3', c4, c5, c6⟩ := hst
   simp only at c0 c1 c2 c3' c4 c5 c6 T1 HB1 HS1
   go_wp2_with fail
   clear c0 c1 c2 c3' c4 c5 c6
   generalize wr.alloc (.cells #[.int .i64 b1, .int .i64 b2, .int .i64 b3, .int .i64 b4, .int .i64 b5, .int .i64 b6, .int .i64 b7] 71) = W4 at T1 HB1 HS1 ⊢
   generalize wr.heap.size = tb at *
   obtain ⟨x0, x1, x2, x3, x4, x5, x6⟩ := T1
   simp only [Nat.zero_add] at x0 x1 x2 x3 x4 x5 x6
   have r0 := cell_regrown x0
   have r1 := cell_regrown x1
   have r2 := cell_regrown x2
   have r3 := cell_regrown x3
   have r4 := cell_regrown x4
   have r5 := cell_regrown x5
   have r6 := cell_regrown x6
   clear x0 x1 x2 x3 x4 x5 x6
   have hic : (i : Int) ≤ (c3 : Int) := by omega
   cases hz : eqB b5 b6 b7 0 0 0
   ·rw [hz] at he HOK'
    rw [Bool.not_false, Bool.true_and] at HOK'
    refine wp_region_quiet_below (by kernel_rfl) (by kernel_rfl) ?_
    repeat (go_big_quiet_step (first | (with_reducible exact Calls.regrown_of (yy cFj _ ((yy HS1).kept (below_regrown _ _ _))))))
    refine wpQuiet_nil ?_
    intro _ hw'
    obtain ⟨⟨dq, osq⟩, hw''⟩ := hw'
    subst hw''
    have hx := aj (yy HB1) (below_regrown W4 dq osq)
    generalize grow (redrawn W4 dq) osq = W5 at hx ⊢
    have HB5 := yz hx
    clear hx r0 r1 r2 r3 r4 r5 r6 he cFj HS1 HB1
    cases fv
    ·have HNO : Hid (R = false) := yz (by rw [yy HR]; exact mg hin (yy HOK'))
     go_wp2_with fail
     go_ret
     exact ⟨by rw [yy HNO]; rfl, (yy B3).trans ((yy HB5).mono (yy B3).size)⟩
    ·go_wp2_with fail
     go_roundw
     case rel => exact ⟨i + 1, by omega, by go_num, yz (fun l hl => by
      by_cases e : l = i
      ·rw [e]; exact yy HOK'
      ·exact yy HF l (by omega)), HB5⟩
     case measure => simp [intOf] <;> omega
   ·rw [hz] at he HOK'
    have HNO : Hid (R = false) := yz (by rw [yy HR]; exact mg hin (yy HOK'))
    refine wp_region_quiet_below (by kernel_rfl) (by kernel_rfl) ?_
    repeat (go_big_quiet_step (fail))
    refine wpQuiet_nil ?_
    intro _ hw'
    obtain ⟨⟨dq, osq⟩, hw''⟩ := hw'
    subst hw''
    have hx := aj (yy HB1) (below_regrown W4 dq osq)
    generalize grow (redrawn W4 dq) osq = W5 at hx ⊢
    go_wp2_with fail
    go_ret
    exact ⟨by rw [yy HNO]; rfl, (yy B3).trans (hx.mono (yy B3).size)⟩
  ·have hin' : i = al := by omega
   subst hin'
   have HY : Hid (R = true) := yz (by rw [yy HR]; exact pq (yy HF))
   go_wp2_with fail
   go_ret
   exact ⟨by rw [yy HY]; rfl, (yy B3).trans ((yy HB).mono (yy B3).size)⟩
def bu (xs : List Int) : List Value := xs.map (fun z => .int .i64 z)
theorem dX {S : List Int} {v : Value} (h : v ∈ bu S) : v.oneCell' = true := by
 unfold bu at h
 rw [List.mem_map] at h
 obtain ⟨p, _, rfl⟩ := h
 rfl
theorem dY (w : World) (B : Nat) (h : B ≤ w.heap.size) : (w.alloc (.cells #[] 2)).ownsRow B 2 1 (.slice (some ⟨w.heap.size, 0, none⟩) 0 0) 0 (bu []) :=
 ⟨rfl, .inr ⟨_, 0, #[], rfl, h, Array.getElem?_push_size, Nat.le_refl _, Nat.zero_le _, rfl, rfl⟩⟩
theorem nG {w : World} {B B' n m : Nat} {t : TypeId} {v : Value} {xs : List Value} (h : w.ownsRow B t m v n xs) (hb : B' ≤ B) : w.ownsRow B' t m v n xs := by
 obtain ⟨h1, h2⟩ := h
 refine ⟨h1, ?_⟩
 rcases h2 with h2 | ⟨g, cap, cur, e, hg, r⟩
 ·exact .inl h2
 ·exact .inr ⟨g, cap, cur, e, by omega, r⟩
def en (L : List St) (a b c d : Int) (v : D3) : Nat → Nat
 | 0 => 0
 | k + 1 => en L a b c d v k + if aS v (apD a b c d (stA L k).2) = true then 1 else 0
def em (L : List St) (a b c d : Int) (S : List D3) (n : Nat) : Nat → Nat
 | 0 => 0
 | i + 1 => em L a b c d S n i + en L a b c d (vA S i) n
theorem gB (L : List St) (a b c d : Int) (v : D3) : ∀ k, en L a b c d v k ≤ k
 | 0 => Nat.le_refl _
 | k + 1 => by unfold en; have := gB L a b c d v k; split <;> omega
theorem mB (L : List St) (a b c d : Int) (S : List D3) (n : Nat) : ∀ i, em L a b c d S n i ≤ i * n
 | 0 => Nat.zero_le _
 | i + 1 => by unfold em; have := mB L a b c d S n i; have := gB L a b c d (vA S i) n; rw [Nat.succ_mul]; omega
def gX (L : List St) (a b c d : Int) (S : List D3) : List Int := S.map (fun v => dy L a b c d v L.length)
theorem si (L : List St) (a b c d : Int) (S : List D3) (i : Nat) (hi : i < S.length) : gX L a b c d (S.take (i + 1)) = gX L a b c d (S.take i) ++ [dy L a b c d (vA S i) L.length] := by
 have e : S.take (i + 1) = S.take i ++ [vA S i] := by
  rw [List.take_succ_eq_append_getElem hi]
  congr 2
  unfold vA
  rw [List.getD_eq_getElem?_getD, List.getElem?_eq_getElem hi]
  rfl
 unfold gX
 rw [e, List.map_append]
 rfl
theorem gh (p q : D3) (w : World) (hp : aF 1000000 p.1 p.2.1 p.2.2 = true) (hq : aF 1000000 q.1 q.2.1 q.2.2 = true) :
  Calls Tryz.prog 47 #[.agg #[.int .i64 p.1, .int .i64 p.2.1, .int .i64 p.2.2], .agg #[.int .i64 q.1, .int .i64 q.2.1, .int .i64 q.2.2]] w fun e w' => e = .returned (.bool (aS q p)) ∧ Below w.heap.size w w' := by
 refine (gg _ _ _ _ _ _ w).mono fun e w' h => ?_
 have h2 := pf hp hq
 rw [lr]
 unfold aS
 rw [← h2]
 exact h
theorem gj (a b c d : Int) (v : D3) (w : World) (ht : aC a b c d = true) (hv : aH v.1 v.2.1 v.2.2 = true) :
  Calls Tryz.prog 76 #[.agg #[.int .i64 a, .int .i64 b, .int .i64 c, .int .i64 d], .agg #[.int .i64 v.1, .int .i64 v.2.1, .int .i64 v.2.2]] w fun e w' => e = .returned (.agg #[.int .i64 (apD a b c d v).1, .int .i64 (apD a b c d v).2.1, .int .i64 (apD a b c d v).2.2]) ∧ Below w.heap.size w w' :=
 fG a b c d v.1 v.2.1 v.2.2 w (bP.1 ht).1 (kw (gu hv))
theorem je {x y z : Int} (h : bz x y z = true) : aF 1000000 x y z = true := by
 have h2 := (aI.1 (dU h).1).1
 rw [aK]
 exact h2
theorem nv (L : List St) (S : List D3) (ar br : Option Addr) (cr dr : Nat) (a b c d : Int) (w : World) (hk : aL L = true) (hr : aC a b c d = true) (hp : aM S = true) (hS : aJ w ar L L.length) (hD : bi w br S S.length) :
  Calls Tryz.prog 40 #[.slice ar L.length cr, .agg #[.int .i64 a, .int .i64 b, .int .i64 c, .int .i64 d], .slice br S.length dr] w fun e w' => (∃ v, e = .returned (.tuple #[v, .int .i64 (em L a b c d S L.length S.length : Int)]) ∧ w'.ownsRow w.heap.size 2 1 v (gX L a b c d S).length (bu (gX L a b c d S))) ∧ Below w.heap.size w w' := by
 obtain ⟨i0, hinf, hz0, hz1, hz2⟩ := info_parts eQ
 have hm8 : 1000 ≤ maxLen := by decide +kernel
 have HSM : Hid (∀ j, j < L.length → aH (stA L j).2.1 (stA L j).2.2.1 (stA L j).2.2.2 = true) := yz (fun j hj => di ((bm hk).2 j hj))
 have HWD : Hid (∀ j, j < S.length → ek (vA S j) = true) := yz (fun j hj => gn ((bc hp).2 j hj))
 have hn12 := (bm hk).1
 have hm6 := (bc hp).1
 have HSN := yz (si L a b c d S)
 have HRT := yz hr
 have HS := yz hS
 have HD := yz hD
 have HAL : Hid (gX L a b c d (S.take S.length) = gX L a b c d S) := yz (by rw [List.take_length])
 clear hS hD hk hr hp
 generalize S.length = m at *
 generalize L.length = n at *
 have T0 := aT w a b c d 34
 have B0 := ak w (.cells #[.int .i64 a, .int .i64 b, .int .i64 c, .int .i64 d] 34)
 have e1 : (w.alloc (.cells #[.int .i64 a, .int .i64 b, .int .i64 c, .int .i64 d] 34)).heap.size = w.heap.size + 1 := by simp
 have Z := ak (w.alloc (.cells #[.int .i64 a, .int .i64 b, .int .i64 c, .int .i64 d] 34)) (.cells #[] 2)
 have O0 := dY (w.alloc (.cells #[.int .i64 a, .int .i64 b, .int .i64 c, .int .i64 d] 34)) (w.heap.size + 1) (by omega)
 rw [e1] at O0
 have HT := yz (T0.kept T0.lt Z)
 have HB := yz (aj B0 Z)
 have HO := yz O0
 have hlow : w.heap.size + 1 ≤ ((w.alloc (.cells #[.int .i64 a, .int .i64 b, .int .i64 c, .int .i64 d] 34)).alloc (.cells #[] 2)).heap.size := by simp
 clear T0 B0 Z O0 e1
 go_enter Tryz.func40, Tryz.ntmps40
 go_wp2_with fail
 generalize (w.alloc (.cells #[.int .i64 a, .int .i64 b, .int .i64 c, .int .i64 d] 34)).alloc (.cells #[] 2) = W0 at HT HB HO hlow ⊢
 go_loopw [8, 9, 10] (fun v cc kk wr => ∃ i : Nat, i ≤ m ∧ kk = .int .i64 i ∧ cc = .int .i64 (em L a b c d S n i : Int) ∧ Hid (wr.ownsRow (w.heap.size + 1) 2 1 v (gX L a b c d (S.take i)).length (bu (gX L a b c d (S.take i)))) ∧ Hid (aP wr w.heap.size a b c d) ∧ Hid (Below w.heap.size w wr) ∧ w.heap.size + 1 ≤ wr.heap.size) (fun _ _ kk _ => m - (intOf kk).toNat)
 case atStart => exact ⟨0, by omega, rfl, rfl, HO, HT, HB, hlow⟩
 case round =>
  clear HO HT HB hlow
  obtain ⟨i, hi, rfl, rfl, HO, HT, HB, hlow⟩ := hrel
  by_cases him : i < m
  ·have him2 : (i : Int) < (m : Int) := by omega
   have hhl := mB L a b c d S n i
   have hhl2 : em L a b c d S n i ≤ 100 := by have := Nat.mul_le_mul (show i ≤ 6 by omega) hn12; omega
   have hwd := yy HWD i him
   have HHI : Hid (em L a b c d S n (i + 1) = em L a b c d S n i + en L a b c d (vA S i) n) := yz rfl
   have HSI := yz (yy HSN i (by first | exact him | omega))
   rcases yy HD with h | ⟨bb, bo, rfl, hbb, hbc⟩
   ·omega
   have hst := hbc i him
   clear hbc
   obtain ⟨⟨v1, v2, v3⟩, hv⟩ : ∃ v, vA S i = v := ⟨_, rfl⟩
   rw [hv] at hst HHI HSI hwd
   clear hv
   have HVC := yz hst
   clear hst
   generalize em L a b c d S n i = hc0 at *
   go_wp2_with fail
   go_loopw [9, 11, 12] (fun cc id kk wr => ∃ k : Nat, k ≤ n ∧ kk = .int .i64 k ∧ cc = .int .i64 ((hc0 + en L a b c d (v1, v2, v3) k : Nat) : Int) ∧ id = .int .i64 (dy L a b c d (v1, v2, v3) k) ∧ Hid (wr.ownsRow (w.heap.size + 1) 2 1 u8 (gX L a b c d (S.take i)).length (bu (gX L a b c d (S.take i)))) ∧ Hid (aP wr w.heap.size a b c d) ∧ Hid (Below w.heap.size w wr) ∧ w.heap.size + 1 ≤ wr.heap.size) (fun _ _ kk _ => n - (intOf kk).toNat)
   case atStart => exact ⟨0, by omega, rfl, by rfl, rfl, HO, HT, HB, hlow⟩
   case round =>
    clear HO HT HB hlow
    obtain ⟨k, hk, rfl, rfl, rfl, HO, HT, HB, hlow⟩ := hrel
    by_cases hkn : k < n
    ·have hkn2 : (k : Int) < (n : Int) := by omega
     rcases yy HS with h0 | ⟨sb, so, rfl, hsb, hsc⟩
     ·omega
     have hst := (hsc k hkn).kept hsb (yy HB)
     clear hsc
     have hvt := (yy HVC).kept hbb (yy HB)
     have hsm := yy HSM k hkn
     have hhk := gB L a b c d (v1, v2, v3) k
     have HHK : Hid (en L a b c d (v1, v2, v3) (k + 1) = en L a b c d (v1, v2, v3) k + if aS (v1, v2, v3) (apD a b c d (stA L k).2) = true then 1 else 0) := yz rfl
     have HID : Hid (dy L a b c d (v1, v2, v3) (k + 1) = if aS (v1, v2, v3) (apD a b c d (stA L k).2) = true then (stA L k).1 else dy L a b c d (v1, v2, v3) k) := yz rfl
     obtain ⟨⟨s1, s2, s3, s4⟩, hs⟩ : ∃ s, stA L k = s := ⟨_, rfl⟩
     rw [hs] at hst hsm HID HHK
     clear hs
     obtain ⟨c0, c1, c2, c3⟩ := hst
     obtain ⟨d0, d1, d2⟩ := hvt
     obtain ⟨e0, e1, e2, e3⟩ := yy HT
     have HID' : Hid (dy L a b c d (v1, v2, v3) (k + 1) = if aS (v1, v2, v3) (apD a b c d (s2, s3, s4)) = true then s1 else dy L a b c d (v1, v2, v3) k) := HID
     have HHK' : Hid (en L a b c d (v1, v2, v3) (k + 1) = en L a b c d (v1, v2, v3) k + if aS (v1, v2, v3) (apD a b c d (s2, s3, s4)) = true then 1 else 0) := HHK
     have cA := yz (fun W => gj a b c d (s2, s3, s4) W (yy HRT) hsm)
     have cS := yz (fun W => gh (apD a b c d (s2, s3, s4)) (v1, v2, v3) W (ip (yy HRT) hsm) (je hwd))
     clear HID HHK hsm
     generalize apD a b c d (s2, s3, s4) = q at *
     obtain ⟨q1, q2, q3⟩ := q
     generalize aS (v1, v2, v3) (q1, q2, q3) = sm at *
     generalize en L a b c d (v1, v2, v3) k = hk0 at *
     generalize hiv : dy L a b c d (v1, v2, v3) k = idv at *
     clear hiv
     simp only at cA cS
     have r0 := cell_regrown c0
     have r1 := cell_regrown c1
     have r2 := cell_regrown c2
     have r3 := cell_regrown c3
     have x0 := cell_regrown d0
     have x1 := cell_regrown d1
     have x2 := cell_regrown d2
     have y0 := cell_regrown e0
     have y1 := cell_regrown e1
     have y2 := cell_regrown e2
     have y3 := cell_regrown e3
     have HC0 := yz c0
     clear c0 c1 c2 c3 d0 d1 d2 e0 e1 e2 e3
     go_wp2_with fail
     refine wp_region_quiet_below (by kernel_rfl) (by kernel_rfl) ?_
     repeat (go_big_quiet_step (first | (with_reducible exact Calls.regrown_of (yy cA _)) | (with_reducible exact Calls.regrown_of (yy cS _))))
     refine wpQuiet_nil ?_
     intro _ hw'
     obtain ⟨⟨dq, osq⟩, hw''⟩ := hw'
     subst hw''
     have hx := below_regrown wr dq osq
     have HO3 := yz (fc (yy HO) hx)
     have HT3 := yz ((yy HT).kept (yy HT).lt hx)
     have HB3 := yz (aj (yy HB) hx)
     have hlow3 := Nat.le_trans hlow hx.size
     have c0 := r0 dq osq
     generalize grow (redrawn wr dq) osq = W3 at hx HO3 HT3 HB3 hlow3 c0 ⊢
     clear hx cA cS r0 r1 r2 r3 x0 x1 x2 y0 y1 y2 y3 HO HT HB hlow
     cases sm
     ·rw [if_neg (by simp)] at HID' HHK'
      go_wp2_with fail
      go_roundw
      case rel => exact ⟨k + 1, by omega, by go_num, by rw [yy HHK']; rfl, by rw [yy HID'], HO3, HT3, HB3, hlow3⟩
      case measure => simp [intOf]; omega
     ·rw [if_pos rfl] at HID' HHK'
      go_wp2_with fail
      go_roundw
      case rel => exact ⟨k + 1, by omega, by go_num, by rw [yy HHK']; go_num, by rw [yy HID'], HO3, HT3, HB3, hlow3⟩
      case measure => simp [intOf]; omega
    ·have hkn' : k = n := by omega
     subst hkn'
     have hhk := gB L a b c d (v1, v2, v3) k
     have HCC : Hid ((hc0 + en L a b c d (v1, v2, v3) k : Nat) = em L a b c d S k (i + 1)) := yz (yy HHI).symm
     have hli : (gX L a b c d (S.take i)).length ≤ 6 := by unfold gX; rw [List.length_map]; have := List.length_take_le i S; omega
     rw [yy HCC]
     generalize dy L a b c d (v1, v2, v3) k = idv at *
     generalize hce : em L a b c d S k (i + 1) = hcn at *
     have HCE := yz hce
     clear hce
     have Z1 := ak wr (.cells #[.int .i64 idv] 2)
     have hown := fc (yy HO) Z1
     have B3 := aj (yy HB) Z1
     have T3 := (yy HT).kept (yy HT).lt Z1
     clear Z1 HO HB HT
     generalize gX L a b c d (S.take i) = Pk at *
     go_wp2_with (at_builtin; refine wpList_append_own _ rfl _ _ 27 rfl (w.heap.size + 1) 2 i0 (.int .i64 0) 1 8 Tryz.underlying27 hinf hz0 hz1 hz2 rfl (by decide) _ _ _ rfl hown ⟨wr.heap.size, 0, none⟩ 1 1 (bu [idv]) rfl rfl ?d2 (fun u hu => dX hu) ?d3 ?d4 ?d5 ?_)
     case d2 => first | exact fun j u h => h | exact fs _ _ _
     case d3 => omega
     case d4 => omega
     case d5 => first | omega | (simp; omega)
     intro v7 V7 hown7 hgrow7 _
     have ne : ∀ z, z < w.heap.size + 1 → some z ≠ u8.ownBlock := fun z hz e => by have := (hown.lt z e.symm).1; omega
     have HB8 : Hid (Below w.heap.size w V7) := yz (B3.trans ⟨hgrow7.os, hgrow7.tape, hgrow7.output, hgrow7.size, fun z hz => hgrow7.block z (by simp; omega) (ne z (by omega))⟩)
     have HT8 := yz (T3.same (hgrow7.block w.heap.size (by simp; omega) (ne _ (by omega))))
     have HO8 : Hid (V7.ownsRow (w.heap.size + 1) 2 1 v7 (gX L a b c d (S.take (i + 1))).length (bu (gX L a b c d (S.take (i + 1))))) := yz (by
      rw [yy HSI, List.length_append]
      unfold bu
      rw [List.map_append]
      exact hown7)
     have hlow8 : w.heap.size + 1 ≤ V7.heap.size := by have := hgrow7.size; simp at this; omega
     clear hown7 hgrow7 hown B3 T3 ne
     go_wp2_with fail
     go_roundw
     case rel => exact ⟨i + 1, by omega, by go_num, by rw [yy HCE], HO8, HT8, HB8, hlow8⟩
     case measure => simp [intOf]; omega
  ·have him' : i = m := by omega
   subst him'
   rw [yy HAL] at HO
   go_wp2_with fail
   exact bodyPost_ret (v := .tuple #[u8, .int .i64 (em L a b c d S n i : Int)]) (by simp [results, Tryz.results40, go_sem]) rfl ⟨⟨_, rfl, nG (yy HO) (by omega)⟩, yy HB⟩
theorem fQ (L : List St) (S : List D3) (ar br : Option Addr) (cr dr : Nat) (a b c d : Int) (w : World) (hn : L.length ≤ 1048576) (hn2 : S.length ≤ 1048576) (hS : aJ w ar L L.length) (hD : bi w br S S.length) :
  Calls Tryz.prog 15 #[.slice ar L.length cr, .agg #[.int .i64 a, .int .i64 b, .int .i64 c, .int .i64 d], .slice br S.length dr] w fun e w' => (∃ v, e = .returned v ∧ w'.ownsRow w.heap.size 2 1 v (aX L a b c d S).length (bu (aX L a b c d S))) ∧ Below w.heap.size w w' := by
 have cK := yz (fun (W : World) hW => dl L ar cr W hn hW)
 have cP := yz (fun (W : World) hW => bQ S br dr W hn2 hW)
 have cM : Hid (aL L = true → aC a b c d = true → aM S = true → ∀ W : World, aJ W ar L L.length → bi W br S S.length → Calls Tryz.prog 40 #[.slice ar L.length cr, .agg #[.int .i64 a, .int .i64 b, .int .i64 c, .int .i64 d], .slice br S.length dr] W fun e w' => (∃ v z, e = .returned (.tuple #[v, .int .i64 z]) ∧ w'.ownsRow W.heap.size 2 1 v (aX L a b c d S).length (bu (aX L a b c d S))) ∧ Below W.heap.size W w') := yz (fun hk hr hp W hW hW2 => (nv L S ar br cr dr a b c d W hk hr hp hW hW2).mono fun e w' h => by
  obtain ⟨⟨v, he, ho⟩, hb⟩ := h
  refine ⟨⟨v, _, he, ?_⟩, hb⟩
  rw [jq hk hr hp]
  exact ho)
 have H1 : Hid (aL L = false → aX L a b c d S = []) := yz jo
 have H2 : Hid (aC a b c d = false → aX L a b c d S = []) := yz mF
 have H3 : Hid (aM S = false → aX L a b c d S = []) := yz jp
 have H5 : Hid (aL L = true → L.length ≤ 12) := yz (fun h => (bm h).1)
 have H6 : Hid (aM S = true → S.length ≤ 6) := yz (fun h => (bc h).1)
 have H7 : Hid (400 < L.length → aX L a b c d S = []) := yz (fun h => jo (lA (by omega)))
 have H8 : Hid (400 < S.length → aX L a b c d S = []) := yz (fun h => jp (fM (by omega)))
 have HS := yz hS
 have HD := yz hD
 clear hS hD
 generalize aX L a b c d S = R at *
 generalize S.length = m at *
 generalize L.length = n at *
 have T0 := aT w a b c d 34
 have B0 := ak w (.cells #[.int .i64 a, .int .i64 b, .int .i64 c, .int .i64 d] 34)
 have e1 : (w.alloc (.cells #[.int .i64 a, .int .i64 b, .int .i64 c, .int .i64 d] 34)).heap.size = w.heap.size + 1 := by simp
 have O0 := dY (w.alloc (.cells #[.int .i64 a, .int .i64 b, .int .i64 c, .int .i64 d] 34)) w.heap.size (by omega)
 have BO := bj w (.cells #[.int .i64 a, .int .i64 b, .int .i64 c, .int .i64 d] 34) (.cells #[] 2)
 rw [e1] at O0
 clear e1
 by_cases hbn : 400 < n
 ·have hbn' : decide ((400 : Int) < (n : Int)) = true := by simp; omega
  obtain rfl := yy H7 hbn
  go_enter Tryz.func15, Tryz.ntmps15
  go_wp2_with fail
  go_ret
  exact ⟨⟨_, rfl, O0⟩, BO⟩
 have hbn' : decide ((400 : Int) < (n : Int)) = false := by simp; omega
 have hbn2 : ¬ (400 : Int) < (n : Int) := by omega
 by_cases hbm : 400 < m
 ·have hbm' : decide ((400 : Int) < (m : Int)) = true := by simp; omega
  obtain rfl := yy H8 hbm
  go_enter Tryz.func15, Tryz.ntmps15
  go_wp2_with fail
  go_ret
  exact ⟨⟨_, rfl, O0⟩, BO⟩
 have hbm' : decide ((400 : Int) < (m : Int)) = false := by simp; omega
 have hbm2 : ¬ (400 : Int) < (m : Int) := by omega
 clear O0 BO
 go_enter Tryz.func15, Tryz.ntmps15
 go_wp2_with fail
 generalize w.alloc (.cells #[.int .i64 a, .int .i64 b, .int .i64 c, .int .i64 d] 34) = W0 at T0 B0 ⊢
 refine (yy cK _ ((yy HS).kept B0)).mono ?_
 rintro e W1 ⟨rfl, hx⟩
 have T1 := T0.kept T0.lt hx
 have B1 := aj B0 hx
 clear hx T0 B0
 have empt : ∀ W : World, Below w.heap.size w W → (W.alloc (.cells #[] 2)).ownsRow w.heap.size 2 1 (.slice (some ⟨W.heap.size, 0, none⟩) 0 0) 0 (bu []) ∧ Below w.heap.size w (W.alloc (.cells #[] 2)) := fun W hB => ⟨dY W w.heap.size hB.size, aj hB (ak _ _)⟩
 cases hk : aL L
 ·obtain rfl := yy H1 hk
  go_wp2_with fail
  go_ret
  exact ⟨⟨_, rfl, (empt _ B1).1⟩, (empt _ B1).2⟩
 obtain ⟨t0, t1, t2, t3⟩ := T1
 have T1 : aP W1 w.heap.size a b c d := ⟨t0, t1, t2, t3⟩
 go_wp2_with fail
 clear t0 t1 t2 t3
 refine (bn a b c d _).mono ?_
 rintro e W2 ⟨rfl, hx⟩
 have T2 := T1.kept T1.lt hx
 have B2 := aj B1 hx
 clear hx T1 B1
 cases hr : aC a b c d
 ·obtain rfl := yy H2 hr
  go_wp2_with fail
  go_ret
  exact ⟨⟨_, rfl, (empt _ B2).1⟩, (empt _ B2).2⟩
 go_wp2_with fail
 refine (yy cP _ ((yy HD).kept B2)).mono ?_
 rintro e W3 ⟨rfl, hx⟩
 have T3 := T2.kept T2.lt hx
 have B3 := aj B2 hx
 clear hx T2 B2
 cases hp : aM S
 ·obtain rfl := yy H3 hp
  go_wp2_with fail
  go_ret
  exact ⟨⟨_, rfl, (empt _ B3).1⟩, (empt _ B3).2⟩
 have cM' := yz (yy cM hk hr hp)
 clear cM cK cP H1 H2 H3 H5 H6 H7 H8 empt hk hr hp
 obtain ⟨t0, t1, t2, t3⟩ := T3
 go_wp2_with fail
 refine (yy cM' _ ((yy HS).kept B3) ((yy HD).kept B3)).mono ?_
 rintro e W4 ⟨⟨v, z, rfl, ho⟩, hx⟩
 go_wp2_with fail
 go_ret
 exact ⟨⟨_, rfl, nG ho B3.size⟩, aj B3 hx⟩
theorem uz {L : List St} {i : Nat} (h : dn L i = true) (hi : 0 < i) : (stA L (i - 1)).1 < (stA L i).1 := by
 unfold dn upB at h
 simp only [Bool.and_eq_true, Bool.or_eq_true, decide_eq_true_eq] at h
 omega
theorem kY {L : List St} (h : aL L = true) : ∀ i, i < L.length → ∀ j, j < i → (stA L j).1 < (stA L i).1
 | 0, _, j, hj => absurd hj (Nat.not_lt_zero _)
 | i + 1, hi, j, hj => by
  have hu := uz ((bm h).2 (i + 1) hi) (by omega)
  rw [Nat.add_sub_cancel] at hu
  by_cases e : j = i
  ·subst e; exact hu
  ·have := kY h i (by omega) j (by omega)
   omega
theorem jh {L : List St} (h : aL L = true) {i : Nat} (hi : i < L.length) : atV L L.length (stA L i).1 = (stA L i).2 :=
 pr hi (fun j hj e => by have := kY h i hi j hj; omega) rfl
end
end Go.Proofs.YtoakkmjcbnfljaaGreatDoor
