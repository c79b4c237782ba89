/- Several texts in one: IeD, IeE, IeF, IeG, IeH, IeI, IeJ, IeK. -/
import Derived.Deep.RegionHeld
import Derived.Deep.DeepCutAuto
import Derived.Maps.OwnSet
import Derived.Maps.Views
import Derived.RangeFuncNested
import Derived.RangeFuncBound
import Derived.RangeFuncCalls
import Derived.RangeFuncLeaves
import Derived.Shelf.Abstract
import Derived.Shelf.RegionOpen
import Derived.WalkKit
import Derived.OwnWalkIn
import Derived.TacticsInMore
import Derived.LoopNIn
import Derived.LoopIn
import Derived.Maps.OwnIn
import Derived.Test.YtoakkmjcbnfljaaGreatDoorQFnIdentOwn7
import Derived.Test.YtoakkmjcbnfljaaGreatDoorQFnIdentOwn1
namespace Go.Proofs.YtoakkmjcbnfljaaGreatDoor
set_option linter.unusedVariables false
set_option linter.unusedSimpArgs false
set_option maxRecDepth 100000
set_option maxHeartbeats 8000000
section
open Go.RowKit Go.Sort
theorem ss {L : List St} {i : Nat} (hi : i < L.length) : (L.map (·.1)).getD i 0 = (stA L i).1 := by
 unfold stA
 rw [List.getD_eq_getElem?_getD, List.getElem?_map, List.getD_eq_getElem?_getD, List.getElem?_eq_getElem hi]
 rfl
theorem lI {L : List St} (hk : aL L = true) {i : Nat} (hi : i < L.length) : aH (atV L L.length (stA L i).1).1 (atV L L.length (stA L i).1).2.1 (atV L L.length (stA L i).1).2.2 = true ∧ (stA L i).1 ≠ 0 := by
 rw [jh hk hi]
 have h := (bm hk).2 i hi
 unfold dn at h
 simp only [Bool.and_eq_true] at h
 refine ⟨?_, fun e => ?_⟩
 ·simp_all
 ·have : idB (stA L i).1 = true := by simp_all
  rw [e] at this
  exact absurd this (by decide)
theorem qW (L : List St) (S : List D3) (ar br : Option Addr) (cr dr x r : Nat) (hk : aL L = true) (hsp : aM S = true) (hdr : S.length ≤ dr) (hd9 : dr ≤ 9223372036854775807) (ih : rL L S ar br cr dr x r)
  (ids : List Int) (s : SeN) (ir : Option Addr) (er : Nat) (w : World) (hl : ids.length + (r + 1) = S.length) (hsm : nR L ids) (hmany : s.many + 13 ^ (r + 1) ≤ 100000000) (hc6 : s.count ≤ 6) (he : ir = none → er = 0) (hI : gY w x ir ids) (hst : fS w x L S ar br cr dr s) (hp : ¬ aD ids + (r + 1) < s.count) :
  Calls Tryz.prog 66 #[.pointer (some ⟨x, 0, none⟩), .slice ir ids.length er, .int .i64 (aD ids : Int)] w fun e w' => (∃ v, e = .returned v) ∧ fS w' x L S ar br cr dr (cy (bs L S) (L.map (·.1)) (r + 1) ids s) ∧ w.grownBy w' (some x) := by
 have hn12 : L.length ≤ 12 := (bm hk).1
 have hm6 : S.length ≤ 6 := (bc hsp).1
 have hAl : (L.map (·.1)).length = L.length := List.length_map _
 have HF := yz (pA (F := bs L S) (A := L.map (·.1)) hp)
 have HIH := yz ih
 have HE := yz he
 have HSM := yz hsm
 have HS := yz hst
 have HI0 := yz hI
 have cF : Hid (∀ (id : Int) (W : World), aH (atV L L.length id).1 (atV L L.length id).2.1 (atV L L.length id).2.2 = true → aJ W ar L L.length → bi W br S S.length → bF W ir ids ids.length → Calls Tryz.prog 71 #[.slice ar L.length cr, .slice br (ids.length + 1) dr, .slice ir ids.length er, .int .i64 id] W fun e w' => e = .returned (.bool (bs L S ids id)) ∧ Below W.heap.size W w') :=
  yz (fun id W h1 h2 h3 h4 => jL L S ids ids.length id ar br ir cr dr er W (by omega) hn12 h2 (h3.less (by omega)) h4 (fun i hi => gn ((bc hsp).2 i (by omega))) h1 (fun i hi h0 => hsm i hi h0))
 have HMB : Hid (∀ i, i ≤ L.length → (dA (bs L S) (L.map (·.1)) r ids s i).many + 13 ^ r ≤ 100000000) := yz (fun i hi => by
  have h1 := ld (bs L S) (L.map (·.1)) (by omega) r ids s i (by omega)
  have h2 : i * 13 ^ r ≤ 12 * 13 ^ r := Nat.mul_le_mul_right _ (by omega)
  rw [Nat.pow_succ] at hmany
  omega)
 have HCB : Hid (∀ i, i ≤ L.length → (dA (bs L S) (L.map (·.1)) r ids s i).count ≤ 6) := yz (fun i hi => lf (bs L S) (L.map (·.1)) r ids s hc6 (by omega) i (by omega))
 have hc := eY ids
 have hkm : ids.length + 1 ≤ S.length := by omega
 have hk6 : ids.length ≤ 6 := by omega
 have hq : ¬ (aD ids + S.length - ids.length < s.count) := by omega
 obtain ⟨⟨v, h1, h2⟩, hf, hs, hd, a1, a2⟩ := hst
 obtain ⟨c0, c1, c2, c3, c4⟩ := h1
 have r1 := cell_regrown c1
 have r3 := cell_regrown c3
 clear h2 hf hs hd a1 a2 c0 c1 c2 c3 c4 hI ih he hsm hmany hp
 have hq' : ¬ (aD ids : Int) + (S.length : Int) - (ids.length : Int) < (s.count : Int) := by omega
 have hne : ¬ (ids.length : Int) = (S.length : Int) := by omega
 have e31 : ((ids.length : Int) == (S.length : Int)) = false := by rw [beq_eq_false_iff_ne]; exact hne
 go_enter Tryz.func66, Tryz.ntmps66
 go_wp2_with fail
 refine wp_region_quiet_below (by kernel_rfl) (by kernel_rfl) ?_
 repeat (go_big_quiet_step (fail))
 refine wpQuiet_nil ?_
 intro _ hw'
 obtain ⟨⟨dq, osq⟩, hw''⟩ := hw'
 subst hw''
 have hx := below_regrown w dq osq
 generalize grow (redrawn w dq) osq = w1 at hx ⊢
 have S1 := yz ((yy HS).kept hx)
 have I1 := yz ((yy HI0).grown (bD (x := x) hx))
 have G1 := yz (bD (x := x) hx)
 clear hx r1 r3 HS
 obtain ⟨⟨v, h1, h2⟩, hf, hs, hd, a1, a2⟩ := yy S1
 obtain ⟨c0, c1, c2, c3, c4⟩ := h1
 clear h2 hf hs hd a1 a2
 go_wp2_with fail
 go_loopw [7] (fun i wr => ∃ k : Nat, k ≤ L.length ∧ i = .int .i64 k ∧ Hid (fS wr x L S ar br cr dr (dA (bs L S) (L.map (·.1)) r ids s k)) ∧ Hid (w.grownBy wr (some x))) (fun i _ => L.length - (intOf i).toNat)
 case atStart => exact ⟨0, Nat.zero_le _, rfl, yz (by rw [le]; exact yy S1), G1⟩
 case round =>
  clear c0 c1 c2 c3 c4 S1 G1 I1
  obtain ⟨k, hkl, rfl, HSt, HG⟩ := hrel
  have HI := yz ((yy HI0).grown (yy HG))
  obtain ⟨⟨v, h1, h2⟩, hf, hs, hd, a1, a2⟩ := yy HSt
  obtain ⟨c0, c1, c2, c3, c4⟩ := h1
  by_cases hkn : k < L.length
  ·obtain ⟨⟨s1, s2, s3, s4⟩, hst⟩ : ∃ q, stA L k = q := ⟨_, rfl⟩
   have hsm1 := lI hk hkn
   have HMA : Hid ((L.map (·.1)).getD k 0 = s1) := yz (by rw [ss hkn, hst])
   rw [hst] at hsm1
   have HST := yz hst
   have hkn2 : (k : Int) < (L.length : Int) := by omega
   rcases hs with hs | ⟨b, o, rfl, hb, hcs⟩
   ·omega
   have d0 := (hcs k hkn).1
   rw [hst] at d0
   have HS2 : Hid (aJ wr (some ⟨b, o, none⟩) L L.length) := yz (.inr ⟨b, o, rfl, hb, hcs⟩)
   have HD2 := yz hd
   have cFi := yz (fun (W : World) (hB : Below wr.heap.size wr W) => yy cF s1 W hsm1.1 ((yy HS2).kept hB) ((yy HD2).kept hB) ((yy HI).nums.kept hB))
   have HS1 := yz hsm1
   clear hcs hst h2 hf hd a1 a2 hsm1
   go_wp2_with fail
   have q0 := cell_regrown c0
   have q1 := cell_regrown c1
   have hkd : (ids.length : Int) + 1 ≤ (dr : Int) := by omega
   cases hfit : bs L S ids s1
   ·rw [hfit] at cFi
    refine wp_region_quiet_below (by kernel_rfl) (by kernel_rfl) ?_
    repeat (go_big_quiet_step (first | (with_reducible exact Calls.regrown_of (yy cFi _ (below_regrown _ _ _)))))
    refine wpQuiet_nil ?_
    intro _ hw'
    obtain ⟨⟨dq2, osq2⟩, hw''⟩ := hw'
    subst hw''
    have hx := below_regrown wr dq2 osq2
    generalize grow (redrawn wr dq2) osq2 = W2 at hx ⊢
    have HR : Hid (dA (bs L S) (L.map (·.1)) r ids s (k + 1) = dA (bs L S) (L.map (·.1)) r ids s k) := yz (by rw [fI _ _ _ _ _ (by omega), yy HMA, hfit]; rfl)
    have S5 : Hid (fS W2 x L S (some ⟨b, o, none⟩) br cr dr (dA (bs L S) (L.map (·.1)) r ids s (k + 1))) := yz (by rw [yy HR]; exact (yy HSt).kept hx)
    have G5 := yz (fb (yy HG) (bD (x := x) hx))
    clear hx c0 c1 c2 c3 c4 d0 q0 q1 HSt HG HI cFi
    go_wp2_with fail
    go_roundw
    case rel => first | exact ⟨k + 1, by omega, by go_num, S5, G5⟩ | exact ⟨k + 1, by omega, by go_num, S5⟩
    case measure => simp [intOf]; omega
   ·rw [hfit] at cFi
    refine wp_region_quiet_below (by kernel_rfl) (by kernel_rfl) ?_
    repeat (go_big_quiet_step (first | (with_reducible exact Calls.regrown_of (yy cFi _ (below_regrown _ _ _)))))
    refine wpQuiet_nil ?_
    intro _ hw'
    obtain ⟨⟨dq2, osq2⟩, hw''⟩ := hw'
    subst hw''
    have hx := below_regrown wr dq2 osq2
    generalize grow (redrawn wr dq2) osq2 = W2 at hx ⊢
    have HR : Hid (dA (bs L S) (L.map (·.1)) r ids s (k + 1) = cy (bs L S) (L.map (·.1)) r (ids ++ [s1]) (dA (bs L S) (L.map (·.1)) r ids s k)) := yz (by rw [fI _ _ _ _ _ (by omega), yy HMA, hfit]; rfl)
    replace HSt := yz ((yy HSt).kept hx)
    replace HG := yz (fb (yy HG) (bD (x := x) hx))
    replace HI := yz ((yy HI).grown (bD (x := x) hx))
    clear hx c0 c1 c2 c3 c4 d0 q0 q1 cFi HS2 HD2
    have hlx : x < W2.heap.size := by obtain ⟨⟨_, hh, _⟩, _⟩ := yy HSt; exact hh.lt
    have HN := yz (dY W2 W2.heap.size (Nat.le_refl _))
    have IA := yz ((yy HI).grown (bD (x := x) (ak W2 (.cells #[] 2))))
    go_wp2_with (at_builtin; refine dV _ rfl _ _ rfl W2.heap.size W2.heap.size rfl (yy HN) x ir er ids rfl (yy HE) (yy IA) hk6 ?d1 ?_)
    try case d1 => simp
    intro v1 V1 ho1 hg1
    obtain ⟨av, cv, rfl⟩ := dQ ho1
    have HB1 : Hid (Below W2.heap.size W2 V1) := yz ((ak W2 (.cells #[] 2)).trans ⟨hg1.os, hg1.tape, hg1.output, hg1.size, fun k hk' => hg1.block k (by simp; omega) (fun e => by have := Option.some.inj e; omega)⟩)
    have O4 := yz (tu ho1 (ak V1 (.cells #[.int .i64 s1] 2)))
    have HC1 : Hid ((V1.alloc (.cells #[.int .i64 s1] 2)).cell? ⟨V1.heap.size, 0, none⟩ = some (.int .i64 s1)) := yz (by simp)
    clear ho1 hg1 IA HN
    go_wp2_with (at_builtin; refine gw _ rfl _ _ rfl W2.heap.size (.slice av ids.length cv) ids rfl (yy O4) V1.heap.size s1 rfl (yy HC1) hk6 ?d2 ?_)
    try case d2 => have := (yy HB1).size; simp; omega
    intro v2 V2 ho2 hg2
    obtain ⟨aw, cw, rfl⟩ := dQ ho2
    have hrow : ∀ g, Value.ownBlock (.slice av ids.length cv) = some g → W2.heap.size ≤ g := fun g e => sF (yy O4) g e
    have hB2 : Below W2.heap.size W2 V2 := (aj (yy HB1) (ak V1 (.cells #[.int .i64 s1] 2))).trans ⟨hg2.os, hg2.tape, hg2.output, by have := (yy HB1).size; have := hg2.size; simp at this ⊢; omega, fun k hk' => hg2.block k (by have := (yy HB1).size; simp; omega) (fun e => by have := hrow k e.symm; omega)⟩
    have S5 := yz ((yy HSt).kept hB2)
    have G5 := yz (fb (yy HG) (bD (x := x) hB2))
    have I5 := yz (qw (ids := ids ++ [s1]) (by rw [List.length_append, List.length_singleton]; exact ho2) hlx)
    have E5 := yz (oU ho2)
    have M5 := yz (lB (yy HSM) (fun _ => (yy HS1).1))
    have C5 : Hid ((aD (ids ++ [s1]) : Int) = (aD ids : Int) + 1) := yz (by rw [fj]; rw [if_pos (yy HS1).2]; omega)
    clear ho2 hg2 hrow hB2 HB1 O4 HC1 HSt HI HG hlx
    have cI := yz (fun (h1 : _) (h2 : _) => yy HIH (ids ++ [s1]) (dA (bs L S) (L.map (·.1)) r ids s k) aw cw V2 (by rw [List.length_append, List.length_singleton]; omega) (yy M5) h1 h2 (yy E5) (yy I5) (yy S5))
    rw [yy C5, List.length_append, List.length_singleton] at cI
    go_wp2_with fail
    refine (yy cI (yy HMB k (by omega)) (yy HCB k (by omega))).mono ?_
    rintro e W6 ⟨⟨ve, rfl⟩, hS6, hG6⟩
    have S6 : Hid (fS W6 x L S (some ⟨b, o, none⟩) br cr dr (dA (bs L S) (L.map (·.1)) r ids s (k + 1))) := yz (by rw [yy HR]; exact hS6)
    have G6 := yz (fb (yy G5) hG6)
    clear hS6 hG6 S5 G5 I5 E5 M5 C5 cI
    go_wp2_with fail
    go_roundw
    case rel => first | exact ⟨k + 1, by omega, by go_num, S6, G6⟩ | exact ⟨k + 1, by omega, by go_num, S6⟩ | exact ⟨.int .i64 ((k : Int) + 1), _, _, _, _, _, _, _, _, _, _, _, _, _, _, _, _, _, _, _, _, _, _, _, _, _, _, _, _, _, _, _, _, _, _, _, _, _, _, _, _, _, _, ⟨k + 1, by omega, by go_num, S6, G6⟩, rfl⟩
    case measure => simp [intOf]; omega
  ·obtain rfl : k = L.length := by omega
   clear h2 hf hs hd a1 a2
   have hlx : x < wr.heap.size := by obtain ⟨⟨_, hh, _⟩, _⟩ := yy HSt; exact hh.lt
   have HN := yz (dY wr wr.heap.size (Nat.le_refl _))
   have IA := yz ((yy HI).grown (bD (x := x) (ak wr (.cells #[] 2))))
   go_wp2_with (at_builtin; (refine dV _ rfl _ _ rfl wr.heap.size wr.heap.size rfl (yy HN) x ir er ids rfl (yy HE) (yy IA) hk6 ?d3 ?_))
   try case d3 => simp
   intro v1 V1 ho1 hg1
   obtain ⟨av, cv, rfl⟩ := dQ ho1
   have HB1 : Hid (Below wr.heap.size wr V1) := yz ((ak wr (.cells #[] 2)).trans ⟨hg1.os, hg1.tape, hg1.output, hg1.size, fun k hk' => hg1.block k (by simp; omega) (fun e => by have := Option.some.inj e; omega)⟩)
   have O4 := yz (tu ho1 (ak V1 (.cells #[.int .i64 0] 2)))
   have HC1 : Hid ((V1.alloc (.cells #[.int .i64 0] 2)).cell? ⟨V1.heap.size, 0, none⟩ = some (.int .i64 0)) := yz (by simp)
   clear ho1 hg1 IA HN
   go_wp2_with (at_builtin; refine gw _ rfl _ _ rfl wr.heap.size (.slice av ids.length cv) ids rfl (yy O4) V1.heap.size 0 rfl (yy HC1) hk6 ?d4 ?_)
   try case d4 => have := (yy HB1).size; simp; omega
   intro v2 V2 ho2 hg2
   obtain ⟨aw, cw, rfl⟩ := dQ ho2
   have hrow : ∀ g, Value.ownBlock (.slice av ids.length cv) = some g → wr.heap.size ≤ g := fun g e => sF (yy O4) g e
   have hB2 : Below wr.heap.size wr V2 := (aj (yy HB1) (ak V1 (.cells #[.int .i64 0] 2))).trans ⟨hg2.os, hg2.tape, hg2.output, by have := (yy HB1).size; have := hg2.size; simp at this ⊢; omega, fun k hk' => hg2.block k (by have := (yy HB1).size; simp; omega) (fun e => by have := hrow k e.symm; omega)⟩
   have S5 := yz ((yy HSt).kept hB2)
   have G5 := yz (fb (yy HG) (bD (x := x) hB2))
   have I5 := yz (qw (ids := ids ++ [0]) (by rw [List.length_append, List.length_singleton]; exact ho2) hlx)
   have E5 := yz (oU ho2)
   have M5 := yz (lB (yy HSM) (fun h => absurd rfl h))
   have C5 : Hid ((aD (ids ++ [0]) : Int) = (aD ids : Int)) := yz (by rw [fj]; simp)
   clear ho2 hg2 hrow hB2 HB1 O4 HC1 HSt HI HG hlx
   have cI := yz (fun (h1 : _) (h2 : _) => yy HIH (ids ++ [0]) (dA (bs L S) (L.map (·.1)) r ids s L.length) aw cw V2 (by rw [List.length_append, List.length_singleton]; omega) (yy M5) h1 h2 (yy E5) (yy I5) (yy S5))
   rw [yy C5, List.length_append, List.length_singleton] at cI
   go_wp2_with fail
   refine (yy cI (yy HMB _ (Nat.le_refl _)) (yy HCB _ (Nat.le_refl _))).mono ?_
   rintro e W6 ⟨⟨ve, rfl⟩, hS6, hG6⟩
   have S6 := yz hS6
   have G6 := yz (fb (yy G5) hG6)
   clear hS6 hG6 S5 G5 I5 E5 M5 C5 cI
   go_wp2_with fail
   go_end0
   refine ⟨⟨_, rfl⟩, ?_, yy G6⟩
   rw [yy HF, hAl]
   exact yy S6
end
section
open Go.RowKit Go.Sort
theorem oA (L : List St) (S : List D3) (ar br : Option Addr) (cr dr x : Nat) (hk : aL L = true) (hsp : aM S = true) (hdr : S.length ≤ dr) (hd9 : dr ≤ 9223372036854775807) : ∀ r, rL L S ar br cr dr x r
 | 0 => fun ids s ir er w hl hsm hm hc he hI hst => by
  by_cases hp : aD ids + 0 < s.count
  ·exact kT L S ar br cr dr x 0 (bc hsp).1 ids s ir er w hl hc hst hp
  ·exact qV L S ar br cr dr x (bc hsp).1 ids s ir er w hl (by simpa using hm) hc he hI hst hp
 | r + 1 => fun ids s ir er w hl hsm hm hc he hI hst => by
  by_cases hp : aD ids + (r + 1) < s.count
  ·exact kT L S ar br cr dr x (r + 1) (bc hsp).1 ids s ir er w hl hc hst hp
  ·exact qW L S ar br cr dr x r hk hsp hdr hd9 (oA L S ar br cr dr x hk hsp hdr hd9 r) ids s ir er w hl hsm hm hc he hI hst hp
def idR (L : List St) (S : List D3) : SeN := cy (bs L S) (L.map (·.1)) S.length [] ⟨[], 3, 0⟩
def fO (L : List St) (S : List D3) : List Int := if (idR L S).many = 1 then (idR L S).best else []
def ge (L : List St) (S : List D3) : Int := if (idR L S).many = 1 then ((idR L S).count : Int) else 0
def eo (L : List St) (S : List D3) : Int := if (idR L S).many = 0 then 6 else if 1 < (idR L S).many then 11 else 0
def tV (w' : World) (B : Nat) (ids : List Int) (cnt code : Int) (e : Ending) : Prop := ∃ v, e = .returned (.agg #[v, .int .i64 cnt, .int .i64 code]) ∧ w'.ownsRow B 2 1 v ids.length (bu ids)
def IdO (w : World) (b : Nat) (v : Value) (c k : Int) : Prop := w.cell? ⟨b, 0, none⟩ = some v ∧ w.cell? ⟨b, 1, none⟩ = some (.int .i64 c) ∧ w.cell? ⟨b, 2, none⟩ = some (.int .i64 k)
theorem IdO.grown {w w' : World} {b : Nat} {v : Value} {c k : Int} {row : Option Nat} (h : IdO w b v c k) (hg : w.grownBy w' row) (hne : some b ≠ row) : IdO w' b v c k := ⟨ck h.1 hg hne, ck h.2.1 hg hne, ck h.2.2 hg hne⟩
theorem IdO.kept {w w' : World} {b : Nat} {v : Value} {c k : Int} (h : IdO w b v c k) (hB : Below w.heap.size w w') : IdO w' b v c k := ⟨aZ h.1 hB, aZ h.2.1 hB, aZ h.2.2 hB⟩
theorem dO {w : World} {b : Nat} {v0 : Value} {c0 k0 : Int} (h : IdO w b v0 c0 k0) (v : Value) (c k : Int) : IdO (((w.setCell ⟨b, 0, none⟩ v).setCell ⟨b, 1, none⟩ (.int .i64 c)).setCell ⟨b, 2, none⟩ (.int .i64 k)) b v c k := by
 obtain ⟨h0, h1, h2⟩ := h
 refine ⟨?_, ?_, ?_⟩ <;> simp [go_sem, h0, h1, h2]
theorem nL (T : Array Value) (X : World) (b : Nat) (v : Value) (c k : Int) (hT : T.getD 4 undef = .pointer (some ⟨b, 0, none⟩)) (h : IdO X b v c k) : (results Tryz.f33 T).run Tryz.prog X = .ok (.agg #[v, .int .i64 c, .int .i64 k]) X := by
 obtain ⟨h0, h1, h2⟩ := h
 simp only [Array.getD_eq_getD_getElem?] at hT
 simp [results, Tryz.results33, go_sem, hT, h0, h1, h2]
theorem gL {w : World} {B b n : Nat} {v : Value} {xs : List Value} (h : w.ownsRow B 2 1 v n xs) (hb : b < B) (o : Nat) (y : Value) : (w.setCell ⟨b, o, none⟩ y).ownsRow B 2 1 v n xs := by
 obtain ⟨h1, h2⟩ := h
 refine ⟨h1, ?_⟩
 rcases h2 with h2 | ⟨g, c', cur, e, hg, hh, r⟩
 ·exact .inl h2
 ·exact .inr ⟨g, c', cur, e, hg, by rw [Below.heap_setCell w ⟨b, o, none⟩ y g (by show g ≠ b; omega)]; exact hh, r⟩
theorem kg (L : List St) (S : List D3) (ar br : Option Addr) (cr dr : Nat) (w : World) (hk : aL L = true) (hsp : aM S = true) (hdr : S.length ≤ dr) (hd9 : dr ≤ 9223372036854775807) (hS : aJ w ar L L.length) (hD : bi w br S S.length) (hA : ∀ y, ar = some y → y.block < w.heap.size) (hB : ∀ y, br = some y → y.block < w.heap.size) :
  Calls Tryz.prog 33 #[.slice ar L.length cr, .slice br S.length dr] w fun e w' => tV w' w.heap.size (fO L S) (ge L S) (eo L S) e ∧ Below w.heap.size w w' := by
 have B0 := bj w (.cells #[.slice none 0 0, .int .i64 0, .int .i64 0] 29) (.cells #[.slice ar L.length cr, .slice br S.length dr, .slice none 0 0, .int .i64 3, .int .i64 0] 106)
 have R0 : IdO ((w.alloc (.cells #[.slice none 0 0, .int .i64 0, .int .i64 0] 29)).alloc (.cells #[.slice ar L.length cr, .slice br S.length dr, .slice none 0 0, .int .i64 3, .int .i64 0] 106)) w.heap.size (.slice none 0 0) 0 0 := IdO.kept (w := w.alloc (.cells #[.slice none 0 0, .int .i64 0, .int .i64 0] 29)) (by refine ⟨?_, ?_, ?_⟩ <;> simp) (ak _ _)
 have F0 : et ((w.alloc (.cells #[.slice none 0 0, .int .i64 0, .int .i64 0] 29)).alloc (.cells #[.slice ar L.length cr, .slice br S.length dr, .slice none 0 0, .int .i64 3, .int .i64 0] 106)) w.heap.size := et.kept (w := w.alloc (.cells #[.slice none 0 0, .int .i64 0, .int .i64 0] 29)) (fun i => by simp) (by simp) (ak _ _)
 have St0 : fS ((w.alloc (.cells #[.slice none 0 0, .int .i64 0, .int .i64 0] 29)).alloc (.cells #[.slice ar L.length cr, .slice br S.length dr, .slice none 0 0, .int .i64 3, .int .i64 0] 106)) (w.heap.size + 1) L S ar br cr dr ⟨[], 3, 0⟩ := by
  refine ⟨⟨.slice none 0 0, ?_, World.ownsRow_nil _ _ _ _⟩, ?_, hS.kept B0, hD.kept B0, fun y e => by have := hA y e; omega, fun y e => by have := hB y e; omega⟩
  ·refine ⟨?_, ?_, ?_, ?_, ?_⟩ <;> simp
  ·intro i; simp
 have cM := yz (oA L S ar br cr dr (w.heap.size + 1) hk hsp hdr hd9 S.length [] ⟨[], 3, 0⟩ none 0 _ (by simp) (fun i hi => absurd hi (by simp)) (by have h6 := (bc hsp).1; have : 13 ^ S.length ≤ 13 ^ 6 := Nat.pow_le_pow_right (by decide) h6; simp only; omega) (by decide) (fun _ => rfl) (.inl ⟨rfl, rfl⟩) St0)
 have HB := yz B0
 have HR := yz R0
 have HF := yz F0
 have hsz : ((w.alloc (.cells #[.slice none 0 0, .int .i64 0, .int .i64 0] 29)).alloc (.cells #[.slice ar L.length cr, .slice br S.length dr, .slice none 0 0, .int .i64 3, .int .i64 0] 106)).heap.size = w.heap.size + 2 := by simp
 clear B0 R0 F0 St0 hS hD hA hB
 go_enter Tryz.func33, Tryz.ntmps33
 go_wp2_with fail
 generalize hW : (w.alloc (.cells #[.slice none 0 0, .int .i64 0, .int .i64 0] 29)).alloc (.cells #[.slice ar L.length cr, .slice br S.length dr, .slice none 0 0, .int .i64 3, .int .i64 0] 106) = W at *
 clear hW
 refine (yy cM).mono ?_
 rintro e w1 ⟨⟨ve, rfl⟩, hS1, hG1⟩
 have HI : Hid (cy (bs L S) (L.map (·.1)) S.length [] ⟨[], 3, 0⟩ = idR L S) := yz rfl
 rw [yy HI] at hS1
 have B1 : Hid (Below w.heap.size w w1) := yz ((yy HB).trans ⟨hG1.os, hG1.tape, hG1.output, by have := hG1.size; omega, fun k hk' => hG1.block k (by omega) (fun e => by have := Option.some.inj e; omega)⟩)
 have R1 := yz ((yy HR).grown hG1 (fun e => by have := Option.some.inj e; omega))
 have F1 := yz ((yy HF).grown (by omega) hG1 (fun e => by have := Option.some.inj e; omega))
 obtain ⟨⟨vb, h1, h2⟩, hf, hs, hd, a1, a2⟩ := hS1
 have O1 := yz h2
 obtain ⟨av, cv, rfl⟩ := dQ h2
 have H1 := yz h1
 clear hf hs hd a1 a2 h2 hG1 HB HR HF cM
 have hO1 : (idR L S).many = 0 → Hid (fO L S = [] ∧ ge L S = 0 ∧ eo L S = 6) := fun h => yz (by unfold fO ge eo; rw [if_neg (by omega), if_neg (by omega), if_pos h]; exact ⟨rfl, rfl, rfl⟩)
 have hO2 : 1 < (idR L S).many → Hid (fO L S = [] ∧ ge L S = 0 ∧ eo L S = 11) := fun h => yz (by unfold fO ge eo; rw [if_neg (by omega), if_neg (by omega), if_neg (by omega), if_pos h]; exact ⟨rfl, rfl, rfl⟩)
 have hO3 : (idR L S).many = 1 → Hid (fO L S = (idR L S).best ∧ ge L S = ((idR L S).count : Int) ∧ eo L S = 0) := fun h => yz (by unfold fO ge eo; rw [if_pos h, if_pos h, if_neg (by omega), if_neg (by omega)]; exact ⟨rfl, rfl, rfl⟩)
 generalize idR L S = s at *
 obtain ⟨bst, ct, mn⟩ := s
 dsimp only at h1 O1 hO1 hO2 hO3
 obtain ⟨c0, c1, c2, c3, c4⟩ := h1
 obtain ⟨r0, r1, r2⟩ := yy R1
 have f0 := yy F1 0
 have f1 := yy F1 1
 have f2 := yy F1 2
 by_cases m0 : mn = 0
 ·have HO := hO1 m0
  subst m0
  clear hO1 hO2 hO3
  go_wp2_with fail
  clear c0 c1 c2 c3 c4 r0 r1 r2 f0 f1 f2
  refine bodyPost_ret (v := .agg #[.slice none 0 0, .int .i64 0, .int .i64 6]) (nL _ _ w.heap.size _ 0 6 rfl (dO (yy R1) _ _ _)) rfl ⟨?_, ((((yy B1).setCell (Nat.le_refl _) _).setCell (Nat.le_refl _) _).setCell (Nat.le_refl _) _)⟩
  rw [(yy HO).1, (yy HO).2.1, (yy HO).2.2]
  exact ⟨_, rfl, World.ownsRow_nil _ _ _ _⟩
 by_cases m1 : 1 < mn
 ·have HO := hO2 m1
  have m0' : ¬ (mn : Int) = 0 := by omega
  have m1' : (1 : Int) < (mn : Int) := by omega
  clear hO1 hO2 hO3
  go_wp2_with fail
  clear c0 c1 c2 c3 c4 r0 r1 r2 f0 f1 f2
  refine bodyPost_ret (v := .agg #[.slice none 0 0, .int .i64 0, .int .i64 11]) (nL _ _ w.heap.size _ 0 11 rfl (dO (yy R1) _ _ _)) rfl ⟨?_, ((((yy B1).setCell (Nat.le_refl _) _).setCell (Nat.le_refl _) _).setCell (Nat.le_refl _) _)⟩
  rw [(yy HO).1, (yy HO).2.1, (yy HO).2.2]
  exact ⟨_, rfl, World.ownsRow_nil _ _ _ _⟩
 ·obtain rfl : mn = 1 := by omega
  have HO := hO3 rfl
  clear hO1 hO2 hO3 m0 m1
  go_wp2_with fail
  refine wp_region_held_drew (S := (fun w' => w'.cell? ⟨w.heap.size + 1, 2, none⟩ = some (.slice av bst.length cv) ∧ w'.cell? ⟨w.heap.size + 1, 3, none⟩ = some (.int .i64 (ct : Int)))) (by kernel_rfl) ?_ (fun hHeld => ?_)
  ·exact ⟨c2, c3⟩
  refine ab 0 rfl ?_
  try simp only [Act.put, ag, ah, ai]
  refine ab 1 rfl ?_
  try simp only [Act.put, ag, ah, ai]
  refine ab 2 rfl ?_
  try simp only [Act.put, ag, ah, ai]
  refine ab 3 rfl ?_
  try simp only [Act.put, ag, ah, ai]
  refine ab 4 rfl ?_
  try simp only [Act.put, ag, ah, ai]
  refine ab 5 rfl ?_
  try simp only [Act.put, ag, ah, ai]
  refine ab 6 rfl ?_
  try simp only [Act.put, ag, ah, ai]
  refine ab 7 rfl ?_
  try simp only [Act.put, ag, ah, ai]
  refine ab 8 rfl ?_
  try simp only [Act.put, ag, ah, ai]
  have R1d : IdO w1.drew w.heap.size (.slice none 0 0) 0 0 := yy R1
  have F1d : et w1.drew w.heap.size := yy F1
  have B1d : Below w.heap.size w w1.drew := (yy B1).drew
  have O1d := tu (yy O1) (Below.refl w1.heap.size w1).drew
  have d2 : w1.drew.cell? ⟨w.heap.size + 1, 2, none⟩ = some (.slice av bst.length cv) := c2
  have d3 : w1.drew.cell? ⟨w.heap.size + 1, 3, none⟩ = some (.int .i64 (ct : Int)) := c3
  generalize hV : w1.drew = V at *
  clear hV c0 c1 c2 c3 c4 r0 r1 r2 f0 f1 f2
  obtain ⟨r0, r1, r2⟩ := R1d
  have f0 := F1d 0
  have f1 := F1d 1
  have f2 := F1d 2
  refine ae 9 rfl fun K hK => ?_
  go_simp
  refine hK.out _ _ ?_ (fun hHeld1 => ?_)
  ·refine ⟨?_, ?_⟩
   ·rw [World.cell?_setCell_far _ _ _ _ (by show w.heap.size ≠ w.heap.size + 1; omega), World.cell?_setCell_far _ _ _ _ (by show w.heap.size ≠ w.heap.size + 1; omega), World.cell?_setCell_far _ _ _ _ (by show w.heap.size ≠ w.heap.size + 1; omega)]
    exact d2
   ·rw [World.cell?_setCell_far _ _ _ _ (by show w.heap.size ≠ w.heap.size + 1; omega), World.cell?_setCell_far _ _ _ _ (by show w.heap.size ≠ w.heap.size + 1; omega), World.cell?_setCell_far _ _ _ _ (by show w.heap.size ≠ w.heap.size + 1; omega)]
    exact d3
  clear hK K hHeld
  refine wpAnyH_done (by kernel_rfl) ?_ _
  clear hHeld1
  go_wp2_with fail
  refine bodyPost_ret (v := .agg #[.slice av bst.length cv, .int .i64 (ct : Int), .int .i64 0]) (nL _ _ w.heap.size _ (ct : Int) 0 rfl (dO ⟨r0, r1, r2⟩ _ _ _)) rfl ⟨?_, (((B1d.setCell (Nat.le_refl _) _).setCell (Nat.le_refl _) _).setCell (Nat.le_refl _) _)⟩
  rw [(yy HO).1, (yy HO).2.1, (yy HO).2.2]
  exact ⟨_, rfl, nG (gL (gL (gL O1d (by omega) _ _) (by omega) _ _) (by omega) _ _) (by omega)⟩
end
section
open Go.RowKit Go.Sort
def gW (L : List St) (S : List D3) : Bool := aL L && aM S
def bl (L : List St) (S : List D3) : List Int := if 400 < L.length ∨ 400 < S.length then [] else if gW L S = true then fO L S else []
def bT (L : List St) (S : List D3) : Int := if 400 < L.length ∨ 400 < S.length then 0 else if gW L S = true then ge L S else 0
def bH (L : List St) (S : List D3) : Int := if 400 < L.length ∨ 400 < S.length then 2 else if gW L S = true then eo L S else 1
theorem gC {L : List St} {S : List D3} (h : 400 < L.length ∨ 400 < S.length) : bl L S = [] ∧ bT L S = 0 ∧ bH L S = 2 := by unfold bl bT bH; rw [if_pos h, if_pos h, if_pos h]; exact ⟨rfl, rfl, rfl⟩
theorem fo {L : List St} {S : List D3} (h : ¬ (400 < L.length ∨ 400 < S.length)) (h1 : gW L S = false) : bl L S = [] ∧ bT L S = 0 ∧ bH L S = 1 := by unfold bl bT bH; rw [if_neg h, if_neg h, if_neg h, h1]; exact ⟨rfl, rfl, rfl⟩
theorem fp {L : List St} {S : List D3} (h : ¬ (400 < L.length ∨ 400 < S.length)) (h1 : gW L S = true) : bl L S = fO L S ∧ bT L S = ge L S ∧ bH L S = eo L S := by unfold bl bT bH; rw [if_neg h, if_neg h, if_neg h, if_pos h1, if_pos h1, if_pos h1]; exact ⟨rfl, rfl, rfl⟩
theorem ix (T : Array Value) (X : World) (b : Nat) (v : Value) (c k : Int) (hT : T.getD 4 undef = .pointer (some ⟨b, 0, none⟩)) (h : IdO X b v c k) : (results Tryz.f10 T).run Tryz.prog X = .ok (.agg #[v, .int .i64 c, .int .i64 k]) X := by
 obtain ⟨h0, h1, h2⟩ := h
 simp only [Array.getD_eq_getD_getElem?] at hT
 simp [results, Tryz.results10, go_sem, hT, h0, h1, h2]
theorem gK {w' : World} {B : Nat} {L : List St} {S : List D3} {k : Int} (h : bl L S = [] ∧ bT L S = 0 ∧ bH L S = k) : tV w' B (bl L S) (bT L S) (bH L S) (.returned (.agg #[.slice none 0 0, .int .i64 0, .int .i64 k])) := by
 rw [h.1, h.2.1, h.2.2]
 exact ⟨_, rfl, World.ownsRow_nil _ _ _ _⟩
theorem jz (L : List St) (S : List D3) (ar br : Option Addr) (cr dr : Nat) (w : World) (hn : L.length ≤ 1048576) (hm : S.length ≤ 1048576) (hdr : S.length ≤ dr) (hd9 : dr ≤ 9223372036854775807) (hS : aJ w ar L L.length) (hD : bi w br S S.length) (hA : ∀ y, ar = some y → y.block < w.heap.size) (hB : ∀ y, br = some y → y.block < w.heap.size) :
  Calls Tryz.prog 10 #[.slice ar L.length cr, .slice br S.length dr] w fun e w' => tV w' w.heap.size (bl L S) (bT L S) (bH L S) e ∧ Below w.heap.size w w' := by
 have B0 := ak w (.cells #[.slice none 0 0, .int .i64 0, .int .i64 0] 29)
 by_cases hbig : 400 < L.length ∨ 400 < S.length
 ·have HO := yz (gC hbig)
  by_cases h4 : 400 < L.length
  ·have h4' : (400 : Int) < (L.length : Int) := by omega
   go_enter Tryz.func10, Tryz.ntmps10
   go_wp2
   exact bodyPost_ret (v := .agg #[.slice none 0 0, .int .i64 0, .int .i64 2]) (by simp [results, Tryz.results10, go_sem]) rfl ⟨gK (yy HO), ak _ _⟩
  ·have h4' : ¬ (400 : Int) < (L.length : Int) := by omega
   have h5' : (400 : Int) < (S.length : Int) := by omega
   go_enter Tryz.func10, Tryz.ntmps10
   go_wp2
   exact bodyPost_ret (v := .agg #[.slice none 0 0, .int .i64 0, .int .i64 2]) (by simp [results, Tryz.results10, go_sem]) rfl ⟨gK (yy HO), ak _ _⟩
 have h4' : ¬ (400 : Int) < (L.length : Int) := by omega
 have h5' : ¬ (400 : Int) < (S.length : Int) := by omega
 have R0 : IdO (w.alloc (.cells #[.slice none 0 0, .int .i64 0, .int .i64 0] 29)) w.heap.size (.slice none 0 0) 0 0 := by refine ⟨?_, ?_, ?_⟩ <;> simp
 have F0 : et (w.alloc (.cells #[.slice none 0 0, .int .i64 0, .int .i64 0] 29)) w.heap.size := fun i => by simp
 have hsz : w.heap.size + 1 ≤ (w.alloc (.cells #[.slice none 0 0, .int .i64 0, .int .i64 0] 29)).heap.size := by simp
 have cS := yz (fun (W : World) h => dl L ar cr W hn h)
 have cD := yz (fun (W : World) h => bQ S br dr W hm h)
 have HB := yz B0
 have HR := yz R0
 have HF := yz F0
 have HS := yz (hS.kept B0)
 have HD := yz (hD.kept B0)
 clear B0 R0 F0 hS hD
 go_enter Tryz.func10, Tryz.ntmps10
 go_wp2_with fail
 generalize hW : w.alloc (.cells #[.slice none 0 0, .int .i64 0, .int .i64 0] 29) = W at *
 clear hW
 refine (yy cS _ (yy HS)).mono ?_
 rintro e w1 ⟨rfl, hx⟩
 have B1 := yz (aj (yy HB) hx)
 have R1 := yz ((yy HR).kept hx)
 have F1 := yz ((yy HF).kept (by omega) hx)
 have S1 := yz ((yy HS).kept hx)
 have D1 := yz ((yy HD).kept hx)
 have hsz1 : w.heap.size + 1 ≤ w1.heap.size := Nat.le_trans hsz hx.size
 clear hx HB HR HF HS HD hsz cS
 cases hk : aL L
 ·have HO := yz (fo hbig (by unfold gW; rw [hk]; rfl))
  obtain ⟨r0, r1, r2⟩ := yy R1
  have f0 := yy F1 0
  have f1 := yy F1 1
  have f2 := yy F1 2
  go_wp2_with fail
  clear r0 r1 r2 f0 f1 f2
  exact bodyPost_ret (v := .agg #[.slice none 0 0, .int .i64 0, .int .i64 1]) (ix _ _ w.heap.size _ 0 1 rfl (dO (yy R1) _ _ _)) rfl ⟨gK (yy HO), ((((yy B1).setCell (Nat.le_refl _) _).setCell (Nat.le_refl _) _).setCell (Nat.le_refl _) _)⟩
 go_wp2_with fail
 refine (yy cD _ (yy D1)).mono ?_
 rintro e w2 ⟨rfl, hx⟩
 have B2 := yz (aj (yy B1) hx)
 have R2 := yz ((yy R1).kept hx)
 have F2 := yz ((yy F1).kept (by omega) hx)
 have S2 := yz ((yy S1).kept hx)
 have D2 := yz ((yy D1).kept hx)
 have hsz2 : w.heap.size + 1 ≤ w2.heap.size := Nat.le_trans hsz1 hx.size
 clear hx B1 R1 F1 S1 D1 hsz1 cD
 cases hp : aM S
 ·have HO := yz (fo hbig (by unfold gW; rw [hp, Bool.and_false]))
  obtain ⟨r0, r1, r2⟩ := yy R2
  have f0 := yy F2 0
  have f1 := yy F2 1
  have f2 := yy F2 2
  go_wp2_with fail
  clear r0 r1 r2 f0 f1 f2
  exact bodyPost_ret (v := .agg #[.slice none 0 0, .int .i64 0, .int .i64 1]) (ix _ _ w.heap.size _ 0 1 rfl (dO (yy R2) _ _ _)) rfl ⟨gK (yy HO), ((((yy B2).setCell (Nat.le_refl _) _).setCell (Nat.le_refl _) _).setCell (Nat.le_refl _) _)⟩
 have HO := yz (fp hbig (by unfold gW; rw [hk, hp]; rfl))
 have cI := yz (kg L S ar br cr dr w2 hk hp hdr hd9 (yy S2) (yy D2) (fun y e => by have := hA y e; omega) (fun y e => by have := hB y e; omega))
 clear hk hp
 go_wp2_with fail
 refine (yy cI).mono ?_
 rintro e w3 ⟨⟨v, rfl, ho⟩, hx⟩
 obtain ⟨av, cv, rfl⟩ := dQ ho
 have B3 := yz (aj (yy B2) hx)
 have R3 := yz ((yy R2).kept hx)
 have F3 := yz ((yy F2).kept (by omega) hx)
 have O3 := yz ho
 clear hx ho B2 R2 F2 S2 D2 cI
 rw [← (yy HO).1] at O3
 rw [← (yy HO).1, ← (yy HO).2.1, ← (yy HO).2.2]
 obtain ⟨r0, r1, r2⟩ := yy R3
 have f0 := yy F3 0
 have f1 := yy F3 1
 have f2 := yy F3 2
 go_wp2_with fail
 clear r0 r1 r2 f0 f1 f2
 refine bodyPost_ret (v := .agg #[.slice av (bl L S).length cv, .int .i64 (bT L S), .int .i64 (bH L S)]) (ix _ _ w.heap.size _ (bT L S) (bH L S) rfl (dO (yy R3) _ _ _)) rfl ⟨⟨_, rfl, ?_⟩, ((((yy B3).setCell (Nat.le_refl _) _).setCell (Nat.le_refl _) _).setCell (Nat.le_refl _) _)⟩
 exact nG (gL (gL (gL (yy O3) (by omega) _ _) (by omega) _ _) (by omega) _ _) (by omega)
def stV (s : St) : Value := .agg #[.int .i64 s.1, .int .i64 s.2.1, .int .i64 s.2.2.1, .int .i64 s.2.2.2]
def jQ (s : St) : DataW Unit := .agg [.lit (.int .i64 s.1), .lit (.int .i64 s.2.1), .lit (.int .i64 s.2.2.1), .lit (.int .i64 s.2.2.2)]
def lG (v : Value) : Option (DataW Unit × List MemPlace) := match v with
 | .agg ⟨[.int .i64 a, .int .i64 b, .int .i64 c, .int .i64 d]⟩ => some (jQ (a, b, c, d), [])
 | _ => none
theorem lH (s : St) : lG (stV s) = some (jQ s, []) := rfl
theorem mN {v : Value} {s : St} {ps : List MemPlace} (h : lG v = some (jQ s, ps)) : v = stV s := by
 unfold lG at h
 split at h
 ·simp only [Option.some.injEq, Prod.mk.injEq, jQ, DataW.agg.injEq, List.cons.injEq, DataW.lit.injEq, Lit.int.injEq, true_and, and_true] at h
  obtain ⟨⟨h1, h2, h3, h4⟩, _⟩ := h
  subst h1 h2 h3 h4
  rfl
 ·cases h
def lP : St := (0, 0, 0, 0)
def cJ (L : List St) (ids : List Int) (i : Nat) : St := if ids.getD i 0 ≠ 0 then (ids.getD i 0, atV L L.length (ids.getD i 0)) else lP
def gZ (D : DataW Unit) (L : List St) (ids : List Int) : Prop := ∀ i : Nat, i < 7 → Maps.has D (.int .i64 (i : Int)) = decide (ids.getD i 0 ≠ 0) ∧ D.atKey (.int .i64 (i : Int)) (jQ lP) = jQ (cJ L ids i)
def be (w : World) (b n : Nat) (L : List St) (ids : List Int) : Prop := ∃ D, w.ownsMap Tryz.prog 3 lG b n D ∧ gZ D L ids
theorem us (i : Nat) (h : i < 7) : (Lit.int .i64 (i : Int)).wf = true := by
 rcases (by omega : i = 0 ∨ i = 1 ∨ i = 2 ∨ i = 3 ∨ i = 4 ∨ i = 5 ∨ i = 6) with rfl | rfl | rfl | rfl | rfl | rfl | rfl <;> decide
theorem tp (i : Nat) (h : i < 7) : keyOf Tryz.prog 3 (.int .i64 (i : Int)) = some (.int .i64 (i : Int)) := Maps.keyOf_int_mk Tryz.underlying3 (us i h)
theorem pm (w : World) : (zeroValue 69).run Tryz.prog w = .ok (stV lP) w := by kernel_rfl
theorem be.look {w : World} {b n : Nat} {L : List St} {ids : List Int} (h : be w b n L ids) (i : Nat) (hi : i < 7) : (Instr.lookup 98 (.map (some b)) (.int .i64 (i : Int)) false).run Tryz.prog w = .ok (stV (cJ L ids i)) w := by
 obtain ⟨D, hD, hM⟩ := h
 obtain ⟨v, ps, hr, hv⟩ := hD.lookup (Maps.int_keyed Tryz.underlying3) Tryz.underlying98 (pm w) (lH lP) (tp i hi)
 rw [(hM i hi).2] at hv
 rw [mN hv] at hr
 exact hr
theorem be.lookOk {w : World} {b n : Nat} {L : List St} {ids : List Int} (h : be w b n L ids) (i : Nat) (hi : i < 7) : (Instr.lookup 98 (.map (some b)) (.int .i64 (i : Int)) true).run Tryz.prog w = .ok (.tuple #[stV (cJ L ids i), .bool (decide (ids.getD i 0 ≠ 0))]) w := by
 obtain ⟨D, hD, hM⟩ := h
 obtain ⟨v, ps, hr, hv⟩ := hD.look_ok (Maps.int_keyed Tryz.underlying3) Tryz.underlying98 (pm w) (lH lP) (tp i hi)
 rw [(hM i hi).2] at hv
 rw [mN hv, (hM i hi).1] at hr
 exact hr
theorem be.kept {w w' : World} {b n : Nat} {L : List St} {ids : List Int} {row : Option Nat} (h : be w b n L ids) (hg : w.grownBy w' row) (hne : some b ≠ row) : be w' b n L ids := by
 obtain ⟨D, hD, hM⟩ := h
 exact ⟨D, hD.kept hg hne, hM⟩
theorem tr (L : List St) (ids : List Int) (i : Nat) : (cJ L ids i).1 = ids.getD i 0 := by
 unfold cJ
 split
 ·rfl
 ·rename_i h
  have h0 : ids.getD i 0 = 0 := by simpa using h
  rw [h0]
  rfl
theorem be.below {w w' : World} {b n : Nat} {L : List St} {ids : List Int} (h : be w b n L ids) (hB : Below w.heap.size w w') : be w' b n L ids := h.kept (row := none) ⟨hB.os, hB.tape, hB.output, hB.size, fun k hk _ => hB.block k hk⟩ (by simp)
def kA (w : World) (b : Nat) (v0 v1 v2 : Value) : Prop := w.cell? ⟨b, 0, none⟩ = some v0 ∧ w.cell? ⟨b, 1, none⟩ = some v1 ∧ w.cell? ⟨b, 2, none⟩ = some v2
theorem kA.kept {w w' : World} {b : Nat} {v0 v1 v2 : Value} (h : kA w b v0 v1 v2) (hB : Below w.heap.size w w') : kA w' b v0 v1 v2 := ⟨aZ h.1 hB, aZ h.2.1 hB, aZ h.2.2 hB⟩
theorem tk (L : List St) (ids : List Int) (m : Nat) (ar br : Option Addr) (nl cr dr b N : Nat) (w : World) (hm : m ≤ 6) (hN : be w b N L ids) :
  Calls Tryz.prog 91 #[.agg #[.slice ar nl cr, .slice br m dr, .map (some b)]] w fun e w' => e = .returned (.slice (some ⟨w.heap.size + 1, 0, none⟩) m m) ∧ cq w' 2 (w.heap.size + 1) (m * 1) (li ids) ∧ Below w.heap.size w w' := by
 have B0 := ak w (.cells #[.slice ar nl cr, .slice br m dr, .map (some b)] 100)
 have C0 : kA (w.alloc (.cells #[.slice ar nl cr, .slice br m dr, .map (some b)] 100)) w.heap.size (.slice ar nl cr) (.slice br m dr) (.map (some b)) := by refine ⟨?_, ?_, ?_⟩ <;> simp
 have HN := yz (hN.below B0)
 have HC := yz C0
 have HB := yz B0
 have hsz : (w.alloc (.cells #[.slice ar nl cr, .slice br m dr, .map (some b)] 100)).heap.size = w.heap.size + 1 := by simp
 clear B0 C0 hN
 obtain ⟨i0, hi, hz0, hz1, hz2⟩ := info_parts eQ
 go_enter Tryz.func91, Tryz.ntmps91
 go_wp2_with (at_make; refine wpList_make_full _ rfl _ _ 27 rfl (w.heap.size + 1) 2 i0 (.int .i64 0) 1 Tryz.underlying27 hi hz0 hz1 .i64 .i64 _ _ m rfl rfl rfl rfl (by rw [hz2]; omega) (by unfold maxLen; omega) (by simp) ?_; intro w0 hown0 hgrow0)
 have hzero : ∀ j, j < m * 1 → (madeCells (Value.int .i64 0).cells (m * 1)).toList[j]? = some (.int .i64 0) := by
  intro j hj
  have e : (Value.int .i64 0).cells = #[.int .i64 0] := rfl
  rw [e, toList_madeCells_one]
  simp at hj
  simp [hj]
 have H0 : Hid (cq w0 2 (w.heap.size + 1) (m * 1) (fun j => if j < 0 then li ids j else .int .i64 0)) := yz (by
  have h := cq.made (v := .nilIface) hown0 hzero
  rw [hsz] at h
  exact h.congr (fun j hj => by rw [if_neg (by omega)]))
 have hb0 := fB hgrow0
 have HB0 := yz (aj (yy HB) hb0)
 have HN0 := yz ((yy HN).below hb0)
 have HC0 := yz ((yy HC).kept hb0)
 clear hown0 hgrow0 hzero hb0 HB HN HC hsz
 go_loopw [11] (fun i wr => ∃ k : Nat, k ≤ m ∧ i = .int .i64 k ∧ Hid (cq wr 2 (w.heap.size + 1) (m * 1) (fun j => if j < k then li ids j else .int .i64 0)) ∧ Hid (Below w.heap.size w wr) ∧ Hid (be wr b N L ids) ∧ Hid (kA wr w.heap.size (.slice ar nl cr) (.slice br m dr) (.map (some b)))) (fun i _ => m - (intOf i).toNat)
 case atStart => exact ⟨0, by omega, rfl, H0, HB0, HN0, HC0⟩
 case round =>
  clear H0 HB0 HN0 HC0
  obtain ⟨k, hk, rfl, HO, HB, HN, HC⟩ := hrel
  by_cases hkn : k < m
  ·have hr := (yy HN).look k (by omega)
   have HID : Hid (li ids k = .int .i64 (cJ L ids k).1) := yz (by rw [tr]; rfl)
   generalize cJ L ids k = q at *
   obtain ⟨q1, q2, q3, q4⟩ := q
   unfold stV at hr
   dsimp only at hr HID
   have hkn2 : (k : Int) < (m : Int) := by omega
   have hfld : ∀ W : World, (Instr.field 69 (.agg #[.int .i64 q1, .int .i64 q2, .int .i64 q3, .int .i64 q4]) 0).run Tryz.prog W = .ok (.int .i64 q1) W := fun W => by kernel_rfl
   have e0 := (yy HO).cell (j := k) (by omega)
   have f0 := (yy HO).free k
   rw [if_neg (by omega)] at e0
   have hbN : b ≠ w.heap.size + 1 := fun e => by
    obtain ⟨D, ⟨es, cl, hh, _⟩, _⟩ := yy HN
    obtain ⟨cur, hc, _⟩ := yy HO
    rw [e, hc] at hh
    cases hh
   have HO3 : Hid (cq (wr.setCell ⟨w.heap.size + 1, k, none⟩ (.int .i64 q1)) 2 (w.heap.size + 1) (m * 1) (fun j => if j < k + 1 then li ids j else .int .i64 0)) := yz (((yy HO).set k (.int .i64 q1)).congr (fun j hj => by
    by_cases h : j = k
    ·rw [if_pos h, if_pos (by omega), h, yy HID]
    ·rw [if_neg h]
     by_cases h2 : j < k
     ·rw [if_pos h2, if_pos (by omega)]
     ·rw [if_neg h2, if_neg (by omega)]))
   have HB3 := yz ((yy HB).setCell (show w.heap.size ≤ w.heap.size + 1 by omega) (.int .i64 q1) : Below w.heap.size w (wr.setCell ⟨w.heap.size + 1, k, none⟩ (.int .i64 q1)))
   have HN3 : Hid (be (wr.setCell ⟨w.heap.size + 1, k, none⟩ (.int .i64 q1)) b N L ids) := yz ((yy HN).kept (row := some (w.heap.size + 1)) (gd (eG wr _) k (.int .i64 q1)) (fun e => hbN (Option.some.inj e)))
   obtain ⟨c0, c1, c2⟩ := yy HC
   have HC3 : Hid (kA (wr.setCell ⟨w.heap.size + 1, k, none⟩ (.int .i64 q1)) w.heap.size (.slice ar nl cr) (.slice br m dr) (.map (some b))) := yz (by
    have hne : some w.heap.size ≠ some (w.heap.size + 1) := fun e => by have := Option.some.inj e; omega
    exact ⟨ck c0 (gd (eG wr _) k (.int .i64 q1)) hne, ck c1 (gd (eG wr _) k (.int .i64 q1)) hne, ck c2 (gd (eG wr _) k (.int .i64 q1)) hne⟩)
   clear HO HB HN HC hbN
   go_wp2_with fail
   go_roundw
   case rel => first | exact ⟨k + 1, by omega, by go_num, HO3, HB3, HN3, HC3⟩ | trace_state
   case measure => simp [intOf]; omega
  ·have hkn' : k = m := by omega
   subst hkn'
   go_wp2_with fail
   go_ret
   exact ⟨rfl, (yy HO).congr (fun j hj => if_pos (by omega)), yy HB⟩
end
section
open Go.RowKit Go.Sort
theorem qM (L : List St) (S : List D3) (ids : List Int) (n : Nat) (ar br : Option Addr) (nl cr dr b N : Nat) (w : World) (hm : S.length ≤ 6) (hn : n ≤ S.length) (hD : bi w br S S.length) (hN : be w b N L ids) :
  Calls Tryz.prog 92 #[.agg #[.slice ar nl cr, .slice br S.length dr, .map (some b)], .int .i64 (n : Int)] w fun e w' => (∃ v, e = .returned v ∧ w'.ownsRow (w.heap.size + 1) 71 7 v (ap L S ids n).length (bG (ap L S ids n))) ∧ Below w.heap.size w w' := by
 obtain ⟨i0, hinf, hz0, hz1, hz2⟩ := info_parts kZ
 have hm8 : 1000 ≤ maxLen := by decide +kernel
 have B0 := ak w (.cells #[.slice ar nl cr, .slice br S.length dr, .map (some b)] 100)
 have C0 : kA (w.alloc (.cells #[.slice ar nl cr, .slice br S.length dr, .map (some b)] 100)) w.heap.size (.slice ar nl cr) (.slice br S.length dr) (.map (some b)) := by refine ⟨?_, ?_, ?_⟩ <;> simp
 have HSn := yz (dL L S ids)
 have HLE := yz (eU L S ids)
 have HSO : Hid (∀ i, aY L S ids i = (vA S i, (ids.getD i 0, atV L L.length (ids.getD i 0)))) := yz (fun i => rfl)
 have HNS : Hid (∀ i, ids.getD i 0 ≠ 0 → cJ L ids i = (ids.getD i 0, atV L L.length (ids.getD i 0))) := yz (fun i h => by unfold cJ; rw [if_pos h])
 have HNZ : Hid (∀ i, ids.getD i 0 = 0 → cJ L ids i = (0, 0, 0, 0)) := yz (fun i h => by unfold cJ; rw [if_neg (by simpa using h)]; rfl)
 have HD := yz (hD.kept B0)
 have HN0 := yz (hN.below B0)
 have HC0 := yz C0
 have HB0 := yz B0
 have hsz : (w.alloc (.cells #[.slice ar nl cr, .slice br S.length dr, .map (some b)] 100)).heap.size = w.heap.size + 1 := by simp
 clear B0 C0 hD hN
 generalize hme : S.length = m at *
 go_enter Tryz.func92, Tryz.ntmps92
 go_wp2_with fail
 generalize hW : w.alloc (.cells #[.slice ar nl cr, .slice br m dr, .map (some b)] 100) = W at *
 clear hW
 go_loopw [5, 10] (fun v kk wr => ∃ i : Nat, i ≤ n ∧ kk = .int .i64 i ∧ Hid (wr.ownsRow (w.heap.size + 1) 71 7 v (ap L S ids i).length (bG (ap L S ids i))) ∧ Hid (Below W.heap.size W wr)) (fun _ kk _ => n - (intOf kk).toNat)
 case atStart => exact ⟨0, by omega, rfl, yz (World.ownsRow_nil _ _ _ _), yz (Below.refl _ _)⟩
 case round =>
  obtain ⟨i, hi, rfl, HO, HB⟩ := hrel
  by_cases hin : i < n
  ·have hin2 : (i : Int) < (n : Int) := by omega
   have hr := ((yy HN0).below (yy HB)).lookOk i (by omega)
   obtain ⟨c0, c1, c2⟩ := (yy HC0).kept (yy HB)
   have HSN := yz (yy HSn i)
   have HSI := yz (yy HSO i)
   have hns := yy HNS i
   have hnz := yy HNZ i
   have hle := yy HLE i
   generalize ids.getD i 0 = id at *
   by_cases hid : id = 0
   ·subst hid
    rw [hnz rfl] at hr
    unfold stV at hr
    simp only [ne_eq, not_true_eq_false, decide_false] at hr
    rw [if_neg (by simp), List.append_nil] at HSN
    have Z := ak wr (.cells #[.int .i64 0, .int .i64 0, .int .i64 0, .int .i64 0] 69)
    have HO3 : Hid ((wr.alloc (.cells #[.int .i64 0, .int .i64 0, .int .i64 0, .int .i64 0] 69)).ownsRow (w.heap.size + 1) 71 7 u5 (ap L S ids (i + 1)).length (bG (ap L S ids (i + 1)))) := yz (by rw [yy HSN]; exact fc (yy HO) Z)
    have HB3 := yz (aj (yy HB) Z)
    clear Z HO HB hns hnz
    go_wp2_with fail
    go_roundw
    case rel => first | exact ⟨i + 1, by omega, by go_num, HO3, HB3⟩ | trace_state
    case measure => simp [intOf] <;> omega
   ·have hid' : decide (id ≠ 0) = true := by simp [hid]
    rw [hns hid, hid'] at hr
    rw [if_pos hid, yy HSI] at HSN
    clear HSI hns hnz
    generalize atV L L.length id = q at *
    obtain ⟨q1, q2, q3⟩ := q
    unfold stV at hr
    dsimp only at hr
    have HU : Hid (∀ z, u5.ownBlock = some z → w.heap.size + 1 ≤ z ∧ z < wr.heap.size) := yz (fun z e => (yy HO).lt z e)
    have Z := ak wr (.cells #[.int .i64 id, .int .i64 q1, .int .i64 q2, .int .i64 q3] 69)
    have HO2 := yz (fc (yy HO) Z)
    have HB2 := yz (aj (yy HB) Z)
    have N2 := yz (ea wr (id, q1, q2, q3) 69)
    clear Z HO HB
    go_wp2_with fail
    clear c0 c1 c2 hr
    generalize wr.alloc (.cells #[.int .i64 id, .int .i64 q1, .int .i64 q2, .int .i64 q3] 69) = W2 at HO2 HB2 N2 ⊢
    generalize wr.heap.size = tb at *
    rcases yy HD with h | ⟨bb, bo, rfl, hbb, hbc⟩
    ·omega
    have hst := (hbc i (by omega)).kept hbb (yy HB2)
    obtain ⟨_, x1, _⟩ := (yy HC0).kept (yy HB2)
    clear hbc
    generalize vA S i = sv at *
    obtain ⟨v1, v2, v3⟩ := sv
    obtain ⟨c0, c1, c2⟩ := hst
    obtain ⟨d0, d1, d2, d3⟩ := yy N2
    simp only [Nat.zero_add] at d0 d1 d2 d3
    simp only at c0 c1 c2
    have him : (i : Int) < (m : Int) := by omega
    refine wp_region_held_drew (S := (fun w' => w'.cell? ⟨w.heap.size, 1, none⟩ = some (.slice (some ⟨bb, bo, none⟩) m dr) ∧ (w'.cell? ⟨bb, bo + i * 3, none⟩ = some (.int .i64 v1) ∧ w'.cell? ⟨bb, bo + i * 3 + 1, none⟩ = some (.int .i64 v2) ∧ w'.cell? ⟨bb, bo + i * 3 + 2, none⟩ = some (.int .i64 v3)) ∧ w'.cell? ⟨tb, 0, none⟩ = some (.int .i64 id) ∧ w'.cell? ⟨tb, 1, none⟩ = some (.int .i64 q1) ∧ w'.cell? ⟨tb, 2, none⟩ = some (.int .i64 q2) ∧ w'.cell? ⟨tb, 3, none⟩ = some (.int .i64 q3))) (by kernel_rfl) ?_ (fun hHeld => ?_)
    ·exact ⟨x1, ⟨c0, c1, c2⟩, d0, d1, d2, d3⟩
    refine ab 0 rfl ?_
    try simp only [Act.put, ag, ah, ai]
    refine ab 1 rfl ?_
    try simp only [Act.put, ag, ah, ai]
    refine ab 2 rfl ?_
    try simp only [Act.put, ag, ah, ai]
    refine ab 3 rfl ?_
    try simp only [Act.put, ag, ah, ai]
    refine ab 4 rfl ?_
    try simp only [Act.put, ag, ah, ai]
    refine ab 5 rfl ?_
    try simp only [Act.put, ag, ah, ai]
    refine ab 6 rfl ?_
    try simp only [Act.put, ag, ah, ai]
    refine ab 7 rfl ?_
    try simp only [Act.put, ag, ah, ai]
    have HK : Hid (∀ W' : World, Below W2.heap.size W2 W' → (W'.cell? ⟨w.heap.size, 1, none⟩ = some (.slice (some ⟨bb, bo, none⟩) m dr) ∧ (W'.cell? ⟨bb, bo + i * 3, none⟩ = some (.int .i64 v1) ∧ W'.cell? ⟨bb, bo + i * 3 + 1, none⟩ = some (.int .i64 v2) ∧ W'.cell? ⟨bb, bo + i * 3 + 2, none⟩ = some (.int .i64 v3)) ∧ W'.cell? ⟨tb, 0, none⟩ = some (.int .i64 id) ∧ W'.cell? ⟨tb, 1, none⟩ = some (.int .i64 q1) ∧ W'.cell? ⟨tb, 2, none⟩ = some (.int .i64 q2) ∧ W'.cell? ⟨tb, 3, none⟩ = some (.int .i64 q3))) := yz (fun W' h => ⟨aZ x1 h, ⟨aZ c0 h, aZ c1 h, aZ c2 h⟩, aZ d0 h, aZ d1 h, aZ d2 h, aZ d3 h⟩)
    have HOd : Hid (W2.drew.ownsRow (w.heap.size + 1) 71 7 u5 (ap L S ids i).length (bG (ap L S ids i))) := HO2
    have HBd := yz ((Below.refl W2.heap.size W2).drew)
    clear c0 c1 c2 d0 d1 d2 d3 x1 N2
    refine ae 8 rfl fun K hK => ?_
    go_simp
    have Z5 := ak W2.drew (.cells #[.int .i64 v1, .int .i64 v2, .int .i64 v3, .int .i64 id, .int .i64 q1, .int .i64 q2, .int .i64 q3] 71)
    have hown := fc (yy HOd) Z5
    have HB5 := yz (aj (yy HBd) Z5)
    have hszd : W2.drew.heap.size = W2.heap.size := rfl
    have hbW : W.heap.size ≤ W2.heap.size := (yy HB2).size
    clear Z5 HOd HBd
    refine hK.out _ _ (yy HK _ (yy HB5)) (fun hHeld3 => ?_)
    clear hK K hHeld
    refine ae 9 rfl fun K hK => ?_
    refine iY rfl _ _ 64 rfl (w.heap.size + 1) 71 i0 (.agg #[.int .i64 0, .int .i64 0, .int .i64 0, .int .i64 0, .int .i64 0, .int .i64 0, .int .i64 0]) 7 56 Tryz.underlying64 hinf hz0 hz1 hz2 rfl (by decide) _ _ _ rfl hown ⟨W2.drew.heap.size, 0, none⟩ 1 1 (bG [((v1, v2, v3), (id, q1, q2, q3))]) rfl rfl ?d2 (fun u hu => jG hu) ?d3 ?d4 ?d5 ?_
    case d2 => first | exact fun j u h => h | exact fs _ _ _
    case d3 => omega
    case d4 => omega
    case d5 => first | omega | (simp; omega)
    intro v7 V7 hown7 hgrow7
    have neb : ∀ z, z < w.heap.size + 1 ∨ tb ≤ z → some z ≠ u5.ownBlock := fun z hz e => by have := yy HU z e.symm; omega
    have HB8 : Hid (Below W.heap.size W V7) := yz ((aj (yy HB2) (yy HB5)).trans ⟨hgrow7.os, hgrow7.tape, hgrow7.output, hgrow7.size, fun z hz => hgrow7.block z (by simp; omega) (neb z (.inl (by omega)))⟩)
    have HO8 : Hid (V7.ownsRow (w.heap.size + 1) 71 7 v7 (ap L S ids (i + 1)).length (bG (ap L S ids (i + 1)))) := yz (by rw [yy HSN, kN, List.length_append]; exact hown7)
    obtain ⟨k1, ⟨k2, k3, k4⟩, k5, k6, k7, k8⟩ := yy HK _ (yy HB5)
    have hbb2 : bb < w.heap.size + 1 := by omega
    have k1' := bq k1 hgrow7 (neb _ (.inl (show w.heap.size < w.heap.size + 1 by omega)))
    have k2' := bq k2 hgrow7 (neb _ (.inl hbb2))
    have k3' := bq k3 hgrow7 (neb _ (.inl hbb2))
    have k4' := bq k4 hgrow7 (neb _ (.inl hbb2))
    have k5' := bq k5 hgrow7 (neb _ (.inr (Nat.le_refl _)))
    have k6' := bq k6 hgrow7 (neb _ (.inr (Nat.le_refl _)))
    have k7' := bq k7 hgrow7 (neb _ (.inr (Nat.le_refl _)))
    have k8' := bq k8 hgrow7 (neb _ (.inr (Nat.le_refl _)))
    clear hown7 hgrow7 hown k1 k2 k3 k4 k5 k6 k7 k8 neb HB5 HB2 HO2
    refine hK.out _ _ ⟨k1', ⟨k2', k3', k4'⟩, k5', k6', k7', k8'⟩ (fun hHeld4 => ?_)
    clear hK K hHeld3
    refine ae 10 rfl fun K hK => ?_
    go_simp
    refine hK.out _ _ ⟨k1', ⟨k2', k3', k4'⟩, k5', k6', k7', k8'⟩ (fun hHeld5 => ?_)
    clear hK K hHeld4
    refine wpAnyH_done (by kernel_rfl) ?_ _
    clear k1' k2' k3' k4' k5' k6' k7' k8' hHeld5 HK
    go_wp2_with fail
    go_roundw
    case rel => first | exact ⟨i + 1, by omega, by go_num, HO8, HB8⟩ | trace_state
    case measure => simp [intOf] <;> omega
  ·have hin' : i = n := by omega
   subst hin'
   go_wp2_with fail
   go_ret
   exact ⟨⟨_, rfl, yy HO⟩, aj (yy HB0) (yy HB)⟩
end
section
open Go.RowKit Go.Sort
theorem ml (ids : List Int) {i : Nat} (hi : i < ids.length) : aD (ids.take (i + 1)) = aD (ids.take i) + if ids.getD i 0 ≠ 0 then 1 else 0 := by
 rw [List.take_succ_eq_append_getElem hi, fj]
 have e : ids.getD i 0 = ids[i] := by rw [List.getD_eq_getElem?_getD, List.getElem?_eq_getElem hi]; rfl
 rw [e]
theorem eL (ids : List Int) (a : Option Addr) (c : Nat) (w : World) (hk : ids.length ≤ 1048576) (hI : bF w a ids ids.length) :
  Calls Tryz.prog 29 #[.slice a ids.length c] w fun e w' => e = .returned (.int .i64 (aD ids : Int)) ∧ w' = w := by
 have HT : Hid (aD (ids.take ids.length) = aD ids) := yz (by rw [List.take_length])
 rcases hI with h0 | ⟨b, o, rfl, hb, hc⟩
 ·have e : ids = [] := List.eq_nil_of_length_eq_zero h0
  subst e
  go_enter Tryz.func29, Tryz.ntmps29
  go_wp2_with fail
  refine wp_loop_rounds 1 ?_
  rw [rounds_succ]
  go_wp2_with fail
  go_ret
  exact ⟨rfl, rfl⟩
 have HC := yz hc
 clear hc
 go_enter Tryz.func29, Tryz.ntmps29
 go_wp2_with fail
 go_loop [3, 8] (fun q i => ∃ k : Nat, k ≤ ids.length ∧ i = .int .i64 k ∧ q = .int .i64 (aD (ids.take k) : Int)) (fun _ i => ids.length - (intOf i).toNat)
 case atStart => exact ⟨0, Nat.zero_le _, rfl, rfl⟩
 case round =>
  obtain ⟨k, hkl, rfl, rfl⟩ := hrel
  by_cases hkn : k < ids.length
  ·have c0 := yy HC k hkn
   have HS := yz (ml ids hkn)
   have hle := eY (ids.take k)
   rw [List.length_take] at hle
   have hle2 : (aD (ids.take k) : Int) ≤ 1048576 := by omega
   have hkn2 : (k : Int) < (ids.length : Int) := by omega
   generalize ids.getD k 0 = z at *
   by_cases hz : z = 0
   ·have HS2 : Hid (aD (ids.take (k + 1)) = aD (ids.take k)) := yz (by rw [yy HS, if_neg (by simpa using hz)]; rfl)
    subst hz
    go_wp2_with fail
    go_round
    case rel => exact ⟨k + 1, by omega, by go_num, by rw [yy HS2]⟩
    case measure => simp [intOf]; omega
   ·have HS2 : Hid (aD (ids.take (k + 1)) = aD (ids.take k) + 1) := yz (by rw [yy HS, if_pos hz])
    go_wp2_with fail
    go_round
    case rel => exact ⟨k + 1, by omega, by go_num, by rw [yy HS2]; go_num⟩
    case measure => simp [intOf]; omega
  ·obtain rfl : k = ids.length := by omega
   go_wp2_with fail
   go_ret
   exact ⟨rfl, rfl⟩
def aW (L : List St) (S : List D3) : List Int × Nat := (cg (bs L S) (L.map (·.1)) S.length []).foldl aR ([], 0)
theorem eO (L : List St) (S : List D3) : fO L S = (if (aW L S).2 = 1 then (aW L S).1 else []) ∧ ge L S = (if (aW L S).2 = 1 then (aD (aW L S).1 : Int) else 0) ∧ eo L S = (if (aW L S).2 = 0 then 6 else if 1 < (aW L S).2 then 11 else 0) := by
 have h := rz (bs L S) (L.map (·.1)) S.length
 unfold fO ge eo
 change mf (idR L S) (aW L S) at h
 rcases h with ⟨h1, h2, h3⟩ | ⟨h1, h2, h3, h4, h5⟩
 ·rw [h1, h3]
  exact ⟨rfl, rfl, rfl⟩
 ·rw [h4]
  refine ⟨?_, ?_, rfl⟩
  ·split
   ·rename_i e; exact h5 e
   ·rfl
  ·split
   ·rw [h3]
   ·rfl
end
section
open Go.RowKit Go.Sort Go.Shelf
attribute [local go_sem] Oper.semAt_some
abbrev Nam := List Int × Nat
def ui (x : Nam) : Value := .slice (some ⟨x.2, 0, none⟩) x.1.length x.1.length
def uh (x : Nam) (w : World) : Prop := cq w 2 x.2 (x.1.length * 1) (li x.1)
structure KpX (p q : Nat) (W W' : World) : Prop where
 size : W.heap.size ≤ W'.heap.size
 os : W'.os = W.os
 tape : W'.tape = W.tape
 output : W'.output = W.output
 same : ∀ k o, W.heap[k]? = some o → (o.isCells = true ∨ o.isWalk = true) → k ≠ p → k ≠ q → W'.heap[k]? = some o
theorem KpX.trans {p q : Nat} {A B C : World} (h : KpX p q A B) (k : KpX p q B C) : KpX p q A C := ⟨Nat.le_trans h.size k.size, k.os.trans h.os, k.tape.trans h.tape, k.output.trans h.output, fun i o hi ho h1 h2 => k.same i o (h.same i o hi ho h1 h2) ho h1 h2⟩
theorem KpX.of_below {p q : Nat} {A B : World} (h : Below A.heap.size A B) : KpX p q A B := ⟨h.size, h.os, h.tape, h.output, fun i o hi _ _ _ => by rw [h.block i (Array.getElem?_eq_some_iff.1 hi).1]; exact hi⟩
def km (l p q : Nat) (J : List (List Int) → World → Prop) : Prop := ∀ m pre (x : Nam) W, J pre W → (∃ W0, J pre W0 ∧ W0.heap.size ≤ x.2) → uh x W → x.1.length ≤ 6 → YieldAt Fence.wide m Tryz.prog l #[ui x] W fun e W' => e = .returned (.bool true) ∧ J (pre ++ [x.1]) W' ∧ KpX p q W W'
theorem qZ (L : List St) (S : List D3) (ids : List Int) (ar br : Option Addr) (cr dr b N l p q n : Nat) (J : List (List Int) → World → Prop) (pre : List (List Int)) (w : World) (hm : S.length ≤ 6) (hl : ids.length = S.length) (hN : be w b N L ids)
  (hJ : J pre w) (hJa : ∀ W W', J pre W → Below W.heap.size W W' → J pre W') (hY : km l p q J) :
  CallsIn Fence.wide n Tryz.prog 64 #[.agg #[.slice ar L.length cr, .slice br S.length dr, .map (some b)], .int .i64 (ids.length : Int), .func (.yield l) #[] #[]] w fun e W' => e = .returned (.bool true) ∧ J (pre ++ [ids]) W' ∧ KpX p q w W' := by
 have B0 := ak w (.cells #[.slice ar L.length cr, .slice br S.length dr, .map (some b)] 100)
 have HB := yz B0
 have HJ := yz (hJa _ _ hJ B0)
 have cI := yz (fun (k : Nat) => callsIn_wide (n := k) |>.2 (tk L ids S.length ar br L.length cr dr b N _ hm (hN.below B0)))
 have HY := yz hY
 have HJa := yz hJa
 clear B0 hN hJ hY hJa
 rw [hl]
 refine callsIn_of_wp Tryz.func64 rfl trivial ?_ rfl
 simp only [Tryz.ntmps64, List.size_toArray, List.length_cons, List.length_nil, Nat.reduceAdd, Nat.reduceSub, Array.replicate_succ, Array.replicate_zero, List.push_toArray, List.append_toArray, List.nil_append, List.cons_append]
 gi_wp2
 refine ⟨trivial, fun h => (by cases h), ?_⟩
 refine (yy cI _).mono ?_
 rintro e w1 ⟨rfl, hrow, hx⟩
 have hsz : (w.alloc (.cells #[.slice ar L.length cr, .slice br S.length dr, .map (some b)] 100)).heap.size = w.heap.size + 1 := by simp
 rw [hsz] at hrow ⊢
 have HY1 := yy HY (n - 1) pre (ids, w.heap.size + 1 + 1) w1 (yy HJa _ _ (yy HJ) hx) ⟨_, yy HJ, by simp⟩ (by unfold uh; dsimp only; rw [hl]; exact hrow) (by dsimp only; omega)
 unfold ui at HY1
 dsimp only at HY1
 rw [hl] at HY1
 have HK := yz (KpX.of_below (p := p) (q := q) (aj (yy HB) hx))
 clear hrow hx hsz cI HY HJa HJ HB
 obtain ⟨fn, tmps, assign, body, hy, hR⟩ := HY1
 gi_wp2
 refine ⟨fun h => (by cases h), ?_⟩
 refine hR.mono ?_
 rintro e w2 ⟨rfl, hJ2, hk2⟩
 have HJ2 := yz hJ2
 have HK2 := yz ((yy HK).trans hk2)
 clear hJ2 hk2 hR hy HK
 gi_wp2
 go_ret
 exact ⟨rfl, yy HJ2, yy HK2⟩
end
end Go.Proofs.YtoakkmjcbnfljaaGreatDoor
