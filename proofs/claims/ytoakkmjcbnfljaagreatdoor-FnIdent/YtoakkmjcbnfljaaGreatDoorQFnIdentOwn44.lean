/- Several texts in one: InA. -/
import Derived.Test.YtoakkmjcbnfljaaGreatDoorQFnIdentOwn42
import Derived.Test.YtoakkmjcbnfljaaGreatDoorQFnIdentOwn43
import Derived.Test.YtoakkmjcbnfljaaGreatDoorQFnIdentOwn1
namespace Go.Proofs.YtoakkmjcbnfljaaGreatDoor
set_option linter.unusedVariables false
set_option linter.unusedSimpArgs false
set_option maxRecDepth 100000
set_option maxHeartbeats 8000000
section
open Go.RowKit Go.Sort
theorem su (a1 a2 a3 a4 a5 : Int) (w : World) : (binOp .neq 42 (.agg #[.int .i64 a1, .int .i64 a2, .int .i64 a3, .int .i64 a4, .int .i64 a5]) (.agg #[.int .i64 a1, .int .i64 a2, .int .i64 a3, .int .i64 a4, .int .i64 a5])).run Tryz.prog w = .ok (.bool false) w := by
 simp [go_sem]
theorem qR (a1 a2 a3 a4 : Int) (w : World) : (binOp .eql 34 (.agg #[.int .i64 a1, .int .i64 a2, .int .i64 a3, .int .i64 a4]) (.agg #[.int .i64 a1, .int .i64 a2, .int .i64 a3, .int .i64 a4])).run Tryz.prog w = .ok (.bool true) w := by
 simp [go_sem]
theorem eS {w : World} {B : Nat} {a : Option Addr} {c : Nat} {ids : List Int} (h : w.ownsRow B 2 1 (.slice a ids.length c) ids.length (bu ids)) : bF w a ids ids.length := by
 obtain ⟨x, k, e, hN, _⟩ := jt rfl h
 injection e with e1 _ _
 subst e1
 exact hN
theorem oZ {a b c d : Int} (h : aC a b c d = true) : 0 ≤ a := by
 have hf := (bP.1 h).2.1
 unfold fT at hf
 by_cases h0 : a = 0
 ·omega
 ·rw [if_pos h0] at hf
  omega
theorem rg (L : List St) (S : List D3) : (bl L S).length ≤ 6 := by
 by_cases hb : 400 < L.length ∨ 400 < S.length
 ·rw [(gC hb).1]; simp
 ·cases ho : gW L S
  ·rw [(fo hb ho).1]; simp
  ·obtain ⟨e1, e2, e3⟩ := fp hb ho
   by_cases h0 : bH L S = 0
   ·have := lL h0
    obtain ⟨_, hs, hl, _⟩ := dJ this.1
    have h6 := (bc hs).1
    omega
   ·rw [e3] at h0
    have hg := eO L S
    rw [e1, hg.1]
    by_cases h1 : (aW L S).2 = 1
    ·exfalso
     rw [hg.2.2, if_neg (by omega), if_neg (by omega)] at h0
     exact h0 rfl
    ·rw [if_neg h1]; simp
theorem sr (ca da : Option Addr) (len cc len2 dc : Nat) (p : Addr) (w : World) (hl : len ≤ 1048576) (hl2 : len2 ≤ 1048576) (hR : Row w ca len w.heap.size) (hR2 : Row w da len2 w.heap.size) (hE : bg p w) :
  Calls Tryz.prog 3 #[.slice ca len cc, .slice da len2 dc] w fun e w' => e = .returned (.bool true) ∧ Below w.heap.size w w' := by
 have h1 : ¬ (1048576 : Int) < (len : Int) := by omega
 have h2 : ¬ (1048576 : Int) < (len2 : Int) := by omega
 have hmx : maxLen ≤ 9223372036854775807 := by decide +kernel
 have cD := yz (ji ca len cc w hl hR)
 have HR := yz hR
 have HR2 := yz hR2
 have HE := yz hE
 clear hR hR2 hE
 go_enter Tryz.func3, Tryz.ntmps3
 go_wp2_with fail
 refine (yy cD).mono ?_
 rintro e W1 ⟨L, sa, sc, S, pa, pc, rfl, hl1, hs1, hC1, hP1, hB1⟩
 replace HE := yz ((yy HE).kept hB1)
 have HC := yz hC1
 have HP := yz hP1
 have HB := yz hB1
 clear hC1 hP1 hB1 cD h1 h2
 have hsq := (ba (yy HP)).2
 have hcq : sc ≤ 9223372036854775807 := by have := (yy HC).capMax.2; omega
 have cL := yz (kX L S sa pa sc pc p W1 (by omega) (by omega) (yy HC).capMax.1 hcq hsq.1 (by omega) (yy HC).stars (ba (yy HP)).1 (fun x e => (bX (yy HC) x e).2) (fun x e => (bX (yy HP) x e).2) (yy HE))
 obtain ⟨ids, HID⟩ : ∃ u, u = bl L S := ⟨_, rfl⟩
 obtain ⟨cnt, HCT⟩ : ∃ u, u = bT L S := ⟨_, rfl⟩
 obtain ⟨kd, HKD⟩ : ∃ u, u = bH L S := ⟨_, rfl⟩
 have HT3 : Hid (kd = 0 → aN L S ids = true ∧ cnt = (aD ids : Int) ∧ 3 ≤ aD ids) := yz (fun h => by rw [HKD] at h; obtain ⟨q1, q2, q3, _⟩ := lL h; rw [HID, HCT]; exact ⟨q1, q2, q3⟩)
 have hil : ids.length ≤ 6 := by rw [HID]; exact rg L S
 have cS1 := yz (fun (W : World) (hS : aJ W sa L L.length) (hD : bi W pa S S.length) (hb : ∀ y, sa = some y → y.block < W.heap.size) (hB : ∀ y, pa = some y → y.block < W.heap.size) => pE L S sa pa sc pc W (by omega) (by omega) hsq.1 (by omega) hS hD hb hB)
 rw [← HID, ← HCT, ← HKD] at cL cS1
 clear HID HCT HKD
 go_wp2_with fail
 refine (yy cL).mono ?_
 rintro e W2 ⟨⟨xa, xk, rfl, hN⟩, hx⟩
 replace HE := yz ((yy HE).kept hx)
 replace HC : Hid (aE _ w.heap.size L sa sc) := yz ((yy HC).kept hx)
 replace HP := yz (au (yy HP) hx)
 replace HB := yz (aj (yy HB) hx)
 have HN := yz hN
 clear hx hN cL
 have hy := ak W2 (.cells #[.slice xa ids.length xk, .int .i64 cnt, .int .i64 kd] 29)
 have HX := yz (aO W2 [.slice xa ids.length xk, .int .i64 cnt, .int .i64 kd] 29)
 replace HE := yz ((yy HE).kept hy)
 replace HC : Hid (aE _ w.heap.size L sa sc) := yz ((yy HC).kept hy)
 replace HP := yz (au (yy HP) hy)
 replace HB := yz (aj (yy HB) hy)
 replace HN := yz ((yy HN).kept hy)
 clear hy
 go_upto_region 5 with fail
 generalize W2.alloc (.cells #[.slice xa ids.length xk, .int .i64 cnt, .int .i64 kd] 29) = W3 at *
 generalize W2.heap.size = xb at *
 go_wp2_with fail
 refine (ie da len2 dc W3 hl2 ((yy HR2).upI (yy HB).size (yy HB).block)).mono ?_
 rintro e W4 ⟨L2, sa2, sc2, S2, pa2, pc2, I2, ia2, ic2, rfl, hl3, hs3, hC2, hP2, hi2, hI2, hx⟩
 replace HE := yz ((yy HE).kept hx)
 replace HC : Hid (aE _ w.heap.size L sa sc) := yz ((yy HC).kept hx)
 replace HP := yz (au (yy HP) hx)
 replace HB := yz (aj (yy HB) hx)
 replace HN := yz ((yy HN).kept hx)
 replace HX := yz ((yy HX).kept hx)
 have HC2 := yz hC2
 have HP2 := yz hP2
 have HI2 := yz hI2
 clear hx hC2 hP2 hI2
 go_wp2_with fail
 refine (kb ca len cc W4 hl ((yy HR).upI (yy HB).size (yy HB).block)).mono ?_
 rintro e W5 ⟨L3, sa3, sc3, A, B, C, D, S3, pa3, pc3, rfl, hl4, hs4, hC3, hP3, hx⟩
 replace HE := yz ((yy HE).kept hx)
 replace HC : Hid (aE _ w.heap.size L sa sc) := yz ((yy HC).kept hx)
 replace HP := yz (au (yy HP) hx)
 replace HB := yz (aj (yy HB) hx)
 replace HN := yz ((yy HN).kept hx)
 replace HX := yz ((yy HX).kept hx)
 replace HC2 : Hid (aE _ W3.heap.size L2 sa2 sc2) := yz ((yy HC2).kept hx)
 replace HP2 := yz (au (yy HP2) hx)
 replace HI2 := yz (au (yy HI2) hx)
 have HC3 := yz hC3
 have HP3 := yz hP3
 clear hx hC3 hP3 HR
 have hy := ak W5 (.cells #[.int .i64 A, .int .i64 B, .int .i64 C, .int .i64 D] 34)
 have HU := yz (aO W5 [.int .i64 A, .int .i64 B, .int .i64 C, .int .i64 D] 34)
 replace HE := yz ((yy HE).kept hy)
 replace HC : Hid (aE _ w.heap.size L sa sc) := yz ((yy HC).kept hy)
 replace HP := yz (au (yy HP) hy)
 replace HB := yz (aj (yy HB) hy)
 replace HN := yz ((yy HN).kept hy)
 replace HX := yz ((yy HX).kept hy)
 replace HC2 : Hid (aE _ W3.heap.size L2 sa2 sc2) := yz ((yy HC2).kept hy)
 replace HP2 := yz (au (yy HP2) hy)
 replace HI2 := yz (au (yy HI2) hy)
 replace HC3 : Hid (aE _ W4.heap.size L3 sa3 sc3) := yz ((yy HC3).kept hy)
 replace HP3 := yz (au (yy HP3) hy)
 clear hy
 go_upto_region 7 with fail
 generalize W5.alloc (.cells #[.int .i64 A, .int .i64 B, .int .i64 C, .int .i64 D] 34) = W6 at *
 generalize W5.heap.size = ub at *
 go_wp2_with fail
 refine (ke da len2 dc W6 hl2 ((yy HR2).upI (yy HB).size (yy HB).block)).mono ?_
 rintro e W7 ⟨L4, sa4, sc4, S4, pa4, pc4, I4, ia4, ic4, rfl, hl5, hs5, hC4, hP4, hi4, hI4, hx⟩
 replace HE := yz ((yy HE).kept hx)
 replace HC : Hid (aE _ w.heap.size L sa sc) := yz ((yy HC).kept hx)
 replace HP := yz (au (yy HP) hx)
 replace HB := yz (aj (yy HB) hx)
 replace HN := yz ((yy HN).kept hx)
 replace HX := yz ((yy HX).kept hx)
 replace HC2 : Hid (aE _ W3.heap.size L2 sa2 sc2) := yz ((yy HC2).kept hx)
 replace HP2 := yz (au (yy HP2) hx)
 replace HI2 := yz (au (yy HI2) hx)
 replace HC3 : Hid (aE _ W4.heap.size L3 sa3 sc3) := yz ((yy HC3).kept hx)
 replace HP3 := yz (au (yy HP3) hx)
 replace HU := yz ((yy HU).kept hx)
 have HC4 := yz hC4
 have HP4 := yz hP4
 have HI4 := yz hI4
 clear hx hC4 hP4 hI4
 go_upto_region 8 with fail
 have hsq2 := (ba (yy HP2)).2
 have hcq2 : sc2 ≤ 9223372036854775807 := by have := (yy HC2).capMax.2; omega
 have hsq3 := (ba (yy HP3)).2
 have hcq3 : sc3 ≤ 9223372036854775807 := by have := (yy HC3).capMax.2; omega
 have hsq4 := (ba (yy HP4)).2
 have hcq4 : sc4 ≤ 9223372036854775807 := by have := (yy HC4).capMax.2; omega
 have hic2 : I2.length ≤ ic2 := iQ (yy HI2) (by decide)
 have hic4 : I4.length ≤ ic4 := iQ (yy HI4) (by decide)
 have HNum2 : Hid (∀ W : World, Below W7.heap.size W7 W → bF W ia2 I2 I2.length) := yz (fun W h => eS (au (yy HI2) h))
 have HNum4 : Hid (∀ W : World, Below W7.heap.size W7 W → bF W ia4 I4 I4.length) := yz (fun W h => eS (au (yy HI4) h))
 have cOX := yz (fun (W : World) (x y : Option Addr) (c d : Nat) (h1 : bF W x ids ids.length) (h2 : bF W y ids ids.length) => nA ids cnt kd x y c d W (by omega) h1 h2)
 have cN1 := yz (fun (W : World) (hS : aJ W sa2 L2 L2.length) (hD : bi W pa2 S2 S2.length) (hI : bF W ia2 I2 I2.length) (hE : bg p W) => ec L2 S2 I2 sa2 pa2 ia2 sc2 pc2 ic2 p W (by omega) (yy HC2).capMax.1 hcq2 (by omega) hsq2.1 (by omega) (by omega) hS hD hI hE)
 have cN2 := yz (fun (W : World) (hS : aJ W sa2 L2 L2.length) (hD : bi W pa2 S2 S2.length) (hI : bF W ia2 I2 I2.length) => il L2 S2 I2 sa2 pa2 ia2 sc2 pc2 ic2 W (by omega) (by omega) (by omega) hsq2.1 hic2 hS hD hI)
 obtain ⟨nb, HNB⟩ : ∃ u, u = aN L2 S2 I2 := ⟨_, rfl⟩
 rw [← HNB] at cN1 cN2
 clear HNB
 have cM1 := yz (fun (W : World) (hS : aJ W sa3 L3 L3.length) (hD : bi W pa3 S3 S3.length) (hE : bg p W) => lg L3 S3 sa3 pa3 sc3 pc3 A B C D p W (by omega) (yy HC3).capMax.1 hcq3 (by omega) hsq3.1 (by omega) hS hD hE)
 have cM2 := yz (fun (W : World) (hS : aJ W sa3 L3 L3.length) (hD : bi W pa3 S3 S3.length) => pH L3 S3 sa3 pa3 sc3 pc3 A B C D W (by omega) (by omega) hS hD)
 have hml := mE L3 A B C D S3
 obtain ⟨ms, HMS⟩ : ∃ u, u = aX L3 A B C D S3 := ⟨_, rfl⟩
 rw [← HMS] at cM1 cM2 hml
 clear HMS
 have cOM := yz (fun (W : World) (x y : Option Addr) (c d : Nat) (h1 : bF W x ms ms.length) (h2 : bF W y ms ms.length) => eh ms x y c d W (by omega) h1 h2)
 have cF1 := yz (fun (W : World) (hS : aJ W sa4 L4 L4.length) (hD : bi W pa4 S4 S4.length) (hI : bF W ia4 I4 I4.length) (hE : bg p W) => fP L4 S4 I4 sa4 pa4 ia4 sc4 pc4 ic4 p W (by omega) (yy HC4).capMax.1 hcq4 (by omega) hsq4.1 (by omega) (by omega) hS hD hI hE)
 have cF2 := yz (fun (W : World) (hS : aJ W sa4 L4 L4.length) (hD : bi W pa4 S4 S4.length) (hI : bF W ia4 I4 I4.length) => kj L4 S4 I4 sa4 pa4 ia4 sc4 pc4 ic4 W (by omega) (by omega) (by omega) hsq4.1 hic4 hS hD hI)
 obtain ⟨⟨⟨f1, f2, f3, f4⟩, fk⟩, HFV⟩ : ∃ u, u = eN L4 S4 I4 := ⟨_, rfl⟩
 rw [← HFV] at cF1 cF2
 clear HFV
 unfold rt at cF1 cF2
 dsimp only at cF1 cF2
 have cP1 := yz (fun (W : World) (hD : bi W pa S S.length) => dS S pa pc W (by omega) hsq.1 (by omega) hD)
 have cP2 := yz (fun (W : World) (hD : bi W pa S S.length) => bQ S pa pc W (by omega) hD)
 obtain ⟨pb, HPB⟩ : ∃ u, u = aM S := ⟨_, rfl⟩
 rw [← HPB] at cP1 cP2
 clear HPB
 have hqo := su f1 f2 f3 f4 fk
 have HKS : Hid (∀ w' : World, Below W7.heap.size W7 w' → w'.cell? ⟨xb, 0, none⟩ = some (.slice xa ids.length xk) ∧ w'.cell? ⟨xb, 1, none⟩ = some (.int .i64 cnt) ∧ w'.cell? ⟨xb, 2, none⟩ = some (.int .i64 kd) ∧ w'.cell? ⟨ub, 0, none⟩ = some (.int .i64 A) ∧ w'.cell? ⟨ub, 1, none⟩ = some (.int .i64 B) ∧ w'.cell? ⟨ub, 2, none⟩ = some (.int .i64 C) ∧ w'.cell? ⟨ub, 3, none⟩ = some (.int .i64 D)) := yz (fun w' h => ⟨((yy HX).kept h).cell 0 _ rfl, ((yy HX).kept h).cell 1 _ rfl, ((yy HX).kept h).cell 2 _ rfl, ((yy HU).kept h).cell 0 _ rfl, ((yy HU).kept h).cell 1 _ rfl, ((yy HU).kept h).cell 2 _ rfl, ((yy HU).kept h).cell 3 _ rfl⟩)
 go_cut [107] (fun v wx => ∃ wv : World, wv = wx ∧ v = .bool false ∧ Hid (Below W7.heap.size W7 wx))
 case first => as_aux_lemma =>
  have HV : Hid (Below W7.heap.size W7 W7.drew) := yz (Below.refl W7.heap.size W7).drew
  refine wp_region_held_drew (S := (fun w' => w'.cell? ⟨xb, 0, none⟩ = some (.slice xa ids.length xk) ∧ w'.cell? ⟨xb, 1, none⟩ = some (.int .i64 cnt) ∧ w'.cell? ⟨xb, 2, none⟩ = some (.int .i64 kd) ∧ w'.cell? ⟨ub, 0, none⟩ = some (.int .i64 A) ∧ w'.cell? ⟨ub, 1, none⟩ = some (.int .i64 B) ∧ w'.cell? ⟨ub, 2, none⟩ = some (.int .i64 C) ∧ w'.cell? ⟨ub, 3, none⟩ = some (.int .i64 D))) (by kernel_rfl) (yy HKS W7 (Below.refl _ _)) (fun hHeld => ?_)
  refine wpAnyH_take (i := 0) (oi := ({ dst := some 61, op := Op.load 29 (Operand.tmp 7), type := 29, pos := "laws.go:320", after := #[], guard := none } : Oper)) (v := ?_) rfl (by kernel_rfl) (by kernel_rfl) (by kernel_rfl) (fun _ _ _ h => h) (Or.inl ⟨by kernel_rfl, ?_⟩) (by assumption) ?_
  rotate_left
  ·intro W0 hSw; (try dsimp only at hSw); go_simp <;> with_reducible rfl
  try simp only [Act.put, ag, ah, ai]
  refine wpAnyH_take (i := 1) (oi := ({ dst := some 62, op := Op.move (Operand.tmp 5), type := 23, pos := "laws.go:320", after := #[], guard := none } : Oper)) (v := ?_) rfl (by kernel_rfl) (by kernel_rfl) (by kernel_rfl) (fun _ _ _ h => h) (Or.inl ⟨by kernel_rfl, ?_⟩) (by assumption) ?_
  rotate_left
  ·intro W0 hSw; (try dsimp only at hSw); go_simp <;> with_reducible rfl
  try simp only [Act.put, ag, ah, ai]
  refine wpAnyH_take (i := 2) (oi := ({ dst := some 63, op := Op.move (Operand.tmp 6), type := 24, pos := "laws.go:320", after := #[], guard := none } : Oper)) (v := ?_) rfl (by kernel_rfl) (by kernel_rfl) (by kernel_rfl) (fun _ _ _ h => h) (Or.inl ⟨by kernel_rfl, ?_⟩) (by assumption) ?_
  rotate_left
  ·intro W0 hSw; (try dsimp only at hSw); go_simp <;> with_reducible rfl
  try simp only [Act.put, ag, ah, ai]
  refine wpAnyH_ready (rs := [3]) (by kernel_rfl) (by simp) ?_
  refine (AllReadyH.cons rfl (fun K hK => ?_) AllReadyH.nil)
  go_simp
  refine (yy cS1 W7.drew ((yy HC).kept (yy HV)).stars (ba (au (yy HP) (yy HV))).1 (fun x e => (bX ((yy HC).kept (yy HV)) x e).2) (fun x e => (bX (au (yy HP) (yy HV)) x e).2)).mono ?_
  rintro e V1 ⟨⟨y1, d1, rfl, hq⟩, hx⟩
  replace HV := yz (aj (yy HV) hx)
  have HA := yz hq
  clear hx hq
  refine hK.out _ _ ?_ (fun hHeld1 => ?_)
  ·exact yy HKS _ (yy HV)
  clear hK K
  refine wpAnyH_ready (rs := [4]) (by kernel_rfl) (by simp) ?_
  refine (AllReadyH.cons rfl (fun K hK => ?_) AllReadyH.nil)
  go_simp
  refine (yy cOX V1 xa y1 xk d1 ((yy HN).kept (yy HV)) (yy HA)).mono ?_
  rintro e V2 ⟨rfl, hx⟩
  replace HV := yz (aj (yy HV) hx)
  clear hx HA
  refine hK.out _ _ ?_ (fun hHeld2 => ?_)
  ·exact yy HKS _ (yy HV)
  clear hK K
  refine wpAnyH_take (i := 5) (oi := ({ dst := some 66, op := Op.unOp UnOp.not 4 (Operand.tmp 65), type := 4, pos := "laws.go:320", after := #[{ on := 4, ground := Ground.data }], guard := none } : Oper)) (v := (.bool false)) rfl (by kernel_rfl) (by kernel_rfl) (by kernel_rfl) (fun _ _ _ h => h) (Or.inl ⟨by kernel_rfl, ?_⟩) (by assumption) ?_
  ·intro W0 hSw; (try dsimp only at hSw); go_simp <;> simp
  try simp only [Act.put, ag, ah, ai]
  refine wpAnyH_take (i := 6) (oi := ({ dst := some 67, op := Op.move (Operand.tmp 66), type := 4, pos := "laws.go:320", after := #[{ on := 5, ground := Ground.data }, { on := 4, ground := Ground.chain }], guard := none } : Oper)) (v := ?_) rfl (by kernel_rfl) (by kernel_rfl) (by kernel_rfl) (fun _ _ _ h => h) (Or.inl ⟨by kernel_rfl, ?_⟩) (by assumption) ?_
  rotate_left
  ·intro W0 hSw; (try dsimp only at hSw); go_simp <;> with_reducible rfl
  try simp only [Act.put, ag, ah, ai]
  refine wpAnyH_take (i := 7) (oi := ({ dst := some 68, op := Op.move (Operand.tmp 8), type := 23, pos := "laws.go:320", after := #[{ on := 6, ground := Ground.guard }], guard := some (6, false) } : Oper)) (v := ?_) rfl (by kernel_rfl) (by kernel_rfl) (by kernel_rfl) (fun _ _ _ h => h) (Or.inl ⟨by kernel_rfl, ?_⟩) (by assumption) ?_
  rotate_left
  ·intro W0 hSw; (try dsimp only at hSw); go_simp <;> with_reducible rfl
  try simp only [Act.put, ag, ah, ai]
  refine wpAnyH_take (i := 8) (oi := ({ dst := some 69, op := Op.move (Operand.tmp 9), type := 24, pos := "laws.go:320", after := #[{ on := 6, ground := Ground.guard }], guard := some (6, false) } : Oper)) (v := ?_) rfl (by kernel_rfl) (by kernel_rfl) (by kernel_rfl) (fun _ _ _ h => h) (Or.inl ⟨by kernel_rfl, ?_⟩) (by assumption) ?_
  rotate_left
  ·intro W0 hSw; (try dsimp only at hSw); go_simp <;> with_reducible rfl
  try simp only [Act.put, ag, ah, ai]
  refine wpAnyH_take (i := 9) (oi := ({ dst := some 70, op := Op.move (Operand.tmp 10), type := 27, pos := "laws.go:320", after := #[{ on := 6, ground := Ground.guard }], guard := some (6, false) } : Oper)) (v := ?_) rfl (by kernel_rfl) (by kernel_rfl) (by kernel_rfl) (fun _ _ _ h => h) (Or.inl ⟨by kernel_rfl, ?_⟩) (by assumption) ?_
  rotate_left
  ·intro W0 hSw; (try dsimp only at hSw); go_simp <;> with_reducible rfl
  try simp only [Act.put, ag, ah, ai]
  refine wpAnyH_take (i := 11) (oi := ({ dst := some 72, op := Op.move (Operand.tmp 8), type := 23, pos := "laws.go:320", after := #[{ on := 6, ground := Ground.guard }], guard := some (6, false) } : Oper)) (v := ?_) rfl (by kernel_rfl) (by kernel_rfl) (by kernel_rfl) (fun _ _ _ h => h) (Or.inl ⟨by kernel_rfl, ?_⟩) (by assumption) ?_
  rotate_left
  ·intro W0 hSw; (try dsimp only at hSw); go_simp <;> with_reducible rfl
  try simp only [Act.put, ag, ah, ai]
  refine wpAnyH_take (i := 12) (oi := ({ dst := some 73, op := Op.move (Operand.tmp 9), type := 24, pos := "laws.go:320", after := #[{ on := 6, ground := Ground.guard }], guard := some (6, false) } : Oper)) (v := ?_) rfl (by kernel_rfl) (by kernel_rfl) (by kernel_rfl) (fun _ _ _ h => h) (Or.inl ⟨by kernel_rfl, ?_⟩) (by assumption) ?_
  rotate_left
  ·intro W0 hSw; (try dsimp only at hSw); go_simp <;> with_reducible rfl
  try simp only [Act.put, ag, ah, ai]
  refine wpAnyH_take (i := 13) (oi := ({ dst := some 74, op := Op.move (Operand.tmp 10), type := 27, pos := "laws.go:320", after := #[{ on := 6, ground := Ground.guard }], guard := some (6, false) } : Oper)) (v := ?_) rfl (by kernel_rfl) (by kernel_rfl) (by kernel_rfl) (fun _ _ _ h => h) (Or.inl ⟨by kernel_rfl, ?_⟩) (by assumption) ?_
  rotate_left
  ·intro W0 hSw; (try dsimp only at hSw); go_simp <;> with_reducible rfl
  try simp only [Act.put, ag, ah, ai]
  refine wpAnyH_ready (rs := [10]) (by kernel_rfl) (by simp) ?_
  refine (AllReadyH.cons rfl (fun K hK => ?_) AllReadyH.nil)
  go_simp
  refine (yy cN1 V2 ((yy HC2).kept (yy HV)).stars (ba (au (yy HP2) (yy HV))).1 (yy HNum2 _ (yy HV)) ((yy HE).kept (yy HV))).mono ?_
  rintro e V3 ⟨rfl, hx⟩
  replace HV := yz (aj (yy HV) hx)
  clear hx 
  refine hK.out _ _ ?_ (fun hHeld3 => ?_)
  ·exact yy HKS _ (yy HV)
  clear hK K
  refine wpAnyH_ready (rs := [14]) (by kernel_rfl) (by simp) ?_
  refine (AllReadyH.cons rfl (fun K hK => ?_) AllReadyH.nil)
  go_simp
  refine (yy cN2 V3 ((yy HC2).kept (yy HV)).stars (ba (au (yy HP2) (yy HV))).1 (yy HNum2 _ (yy HV))).mono ?_
  rintro e V4 ⟨rfl, hx⟩
  replace HV := yz (aj (yy HV) hx)
  clear hx 
  refine hK.out _ _ ?_ (fun hHeld4 => ?_)
  ·exact yy HKS _ (yy HV)
  clear hK K
  refine wpAnyH_take (i := 15) (oi := ({ dst := some 76, op := Op.binOp BinOp.neq 4 (Operand.tmp 71) (Operand.tmp 75) 4, type := 4, pos := "laws.go:320", after := #[{ on := 10, ground := Ground.data }, { on := 14, ground := Ground.data }, { on := 6, ground := Ground.guard }], guard := some (6, false) } : Oper)) (v := (.bool false)) rfl (by kernel_rfl) (by kernel_rfl) (by kernel_rfl) (fun _ _ _ h => h) (Or.inl ⟨by kernel_rfl, ?_⟩) (by assumption) ?_
  ·intro W0 hSw; (try dsimp only at hSw); go_simp <;> simp
  try simp only [Act.put, ag, ah, ai]
  refine wpAnyH_take (i := 16) (oi := ({ dst := some 77, op := Op.pick (Operand.tmp 67) (Operand.const (Value.bool true)) (Operand.tmp 76), type := 4, pos := "laws.go:320", after := #[{ on := 6, ground := Ground.data }, { on := 15, ground := Ground.data }], guard := none } : Oper)) (v := (.bool false)) rfl (by kernel_rfl) (by kernel_rfl) (by kernel_rfl) (fun _ _ _ h => h) (Or.inl ⟨by kernel_rfl, ?_⟩) (by assumption) ?_
  ·intro W0 hSw; (try dsimp only at hSw); go_simp <;> simp
  try simp only [Act.put, ag, ah, ai]
  refine wpAnyH_take (i := 17) (oi := ({ dst := some 78, op := Op.move (Operand.tmp 77), type := 4, pos := "laws.go:320", after := #[{ on := 16, ground := Ground.data }, { on := 14, ground := Ground.chain }], guard := none } : Oper)) (v := ?_) rfl (by kernel_rfl) (by kernel_rfl) (by kernel_rfl) (fun _ _ _ h => h) (Or.inl ⟨by kernel_rfl, ?_⟩) (by assumption) ?_
  rotate_left
  ·intro W0 hSw; (try dsimp only at hSw); go_simp <;> with_reducible rfl
  try simp only [Act.put, ag, ah, ai]
  refine wpAnyH_take (i := 18) (oi := ({ dst := some 79, op := Op.move (Operand.tmp 11), type := 23, pos := "laws.go:320", after := #[{ on := 17, ground := Ground.guard }], guard := some (17, false) } : Oper)) (v := ?_) rfl (by kernel_rfl) (by kernel_rfl) (by kernel_rfl) (fun _ _ _ h => h) (Or.inl ⟨by kernel_rfl, ?_⟩) (by assumption) ?_
  rotate_left
  ·intro W0 hSw; (try dsimp only at hSw); go_simp <;> with_reducible rfl
  try simp only [Act.put, ag, ah, ai]
  refine wpAnyH_take (i := 19) (oi := ({ dst := some 80, op := Op.load 34 (Operand.tmp 12), type := 34, pos := "laws.go:320", after := #[{ on := 17, ground := Ground.guard }], guard := some (17, false) } : Oper)) (v := ?_) rfl (by kernel_rfl) (by kernel_rfl) (by kernel_rfl) (fun _ _ _ h => h) (Or.inl ⟨by kernel_rfl, ?_⟩) (by assumption) ?_
  rotate_left
  ·intro W0 hSw; (try dsimp only at hSw); go_simp <;> with_reducible rfl
  try simp only [Act.put, ag, ah, ai]
  refine wpAnyH_take (i := 20) (oi := ({ dst := some 81, op := Op.move (Operand.tmp 13), type := 24, pos := "laws.go:320", after := #[{ on := 17, ground := Ground.guard }], guard := some (17, false) } : Oper)) (v := ?_) rfl (by kernel_rfl) (by kernel_rfl) (by kernel_rfl) (fun _ _ _ h => h) (Or.inl ⟨by kernel_rfl, ?_⟩) (by assumption) ?_
  rotate_left
  ·intro W0 hSw; (try dsimp only at hSw); go_simp <;> with_reducible rfl
  try simp only [Act.put, ag, ah, ai]
  refine wpAnyH_take (i := 22) (oi := ({ dst := some 83, op := Op.move (Operand.tmp 11), type := 23, pos := "laws.go:320", after := #[{ on := 17, ground := Ground.guard }], guard := some (17, false) } : Oper)) (v := ?_) rfl (by kernel_rfl) (by kernel_rfl) (by kernel_rfl) (fun _ _ _ h => h) (Or.inl ⟨by kernel_rfl, ?_⟩) (by assumption) ?_
  rotate_left
  ·intro W0 hSw; (try dsimp only at hSw); go_simp <;> with_reducible rfl
  try simp only [Act.put, ag, ah, ai]
  refine wpAnyH_take (i := 23) (oi := ({ dst := some 84, op := Op.load 34 (Operand.tmp 12), type := 34, pos := "laws.go:320", after := #[{ on := 17, ground := Ground.guard }], guard := some (17, false) } : Oper)) (v := ?_) rfl (by kernel_rfl) (by kernel_rfl) (by kernel_rfl) (fun _ _ _ h => h) (Or.inl ⟨by kernel_rfl, ?_⟩) (by assumption) ?_
  rotate_left
  ·intro W0 hSw; (try dsimp only at hSw); go_simp <;> with_reducible rfl
  try simp only [Act.put, ag, ah, ai]
  refine wpAnyH_take (i := 24) (oi := ({ dst := some 85, op := Op.move (Operand.tmp 13), type := 24, pos := "laws.go:320", after := #[{ on := 17, ground := Ground.guard }], guard := some (17, false) } : Oper)) (v := ?_) rfl (by kernel_rfl) (by kernel_rfl) (by kernel_rfl) (fun _ _ _ h => h) (Or.inl ⟨by kernel_rfl, ?_⟩) (by assumption) ?_
  rotate_left
  ·intro W0 hSw; (try dsimp only at hSw); go_simp <;> with_reducible rfl
  try simp only [Act.put, ag, ah, ai]
  refine wpAnyH_ready (rs := [21]) (by kernel_rfl) (by simp) ?_
  refine (AllReadyH.cons rfl (fun K hK => ?_) AllReadyH.nil)
  go_simp
  refine (yy cM1 V4 ((yy HC3).kept (yy HV)).stars (ba (au (yy HP3) (yy HV))).1 ((yy HE).kept (yy HV))).mono ?_
  rintro e V5 ⟨⟨y1, d1, rfl, hq⟩, hx⟩
  replace HV := yz (aj (yy HV) hx)
  have HA := yz hq
  clear hx hq
  refine hK.out _ _ ?_ (fun hHeld5 => ?_)
  ·exact yy HKS _ (yy HV)
  clear hK K
  refine wpAnyH_ready (rs := [25]) (by kernel_rfl) (by simp) ?_
  refine (AllReadyH.cons rfl (fun K hK => ?_) AllReadyH.nil)
  go_simp
  refine (yy cM2 V5 ((yy HC3).kept (yy HV)).stars (ba (au (yy HP3) (yy HV))).1).mono ?_
  rintro e V6 ⟨⟨y2, d2, rfl, hq⟩, hx⟩
  replace HV := yz (aj (yy HV) hx)
  replace HA := yz ((yy HA).kept hx)
  have HA2 := yz hq
  clear hx hq
  refine hK.out _ _ ?_ (fun hHeld6 => ?_)
  ·exact yy HKS _ (yy HV)
  clear hK K
  refine wpAnyH_ready (rs := [26]) (by kernel_rfl) (by simp) ?_
  refine (AllReadyH.cons rfl (fun K hK => ?_) AllReadyH.nil)
  go_simp
  refine (yy cOM V6 y1 y2 d1 d2 (yy HA) (yy HA2)).mono ?_
  rintro e V7 ⟨rfl, hx⟩
  replace HV := yz (aj (yy HV) hx)
  clear hx HA HA2
  refine hK.out _ _ ?_ (fun hHeld7 => ?_)
  ·exact yy HKS _ (yy HV)
  clear hK K
  refine wpAnyH_take (i := 27) (oi := ({ dst := some 88, op := Op.unOp UnOp.not 4 (Operand.tmp 87), type := 4, pos := "laws.go:320", after := #[{ on := 26, ground := Ground.data }, { on := 17, ground := Ground.guard }], guard := some (17, false) } : Oper)) (v := (.bool false)) rfl (by kernel_rfl) (by kernel_rfl) (by kernel_rfl) (fun _ _ _ h => h) (Or.inl ⟨by kernel_rfl, ?_⟩) (by assumption) ?_
  ·intro W0 hSw; (try dsimp only at hSw); go_simp <;> simp
  try simp only [Act.put, ag, ah, ai]
  refine wpAnyH_take (i := 28) (oi := ({ dst := some 89, op := Op.pick (Operand.tmp 78) (Operand.const (Value.bool true)) (Operand.tmp 88), type := 4, pos := "laws.go:320", after := #[{ on := 17, ground := Ground.data }, { on := 27, ground := Ground.data }], guard := none } : Oper)) (v := (.bool false)) rfl (by kernel_rfl) (by kernel_rfl) (by kernel_rfl) (fun _ _ _ h => h) (Or.inl ⟨by kernel_rfl, ?_⟩) (by assumption) ?_
  ·intro W0 hSw; (try dsimp only at hSw); go_simp <;> simp
  try simp only [Act.put, ag, ah, ai]
  refine wpAnyH_take (i := 29) (oi := ({ dst := some 90, op := Op.move (Operand.tmp 89), type := 4, pos := "laws.go:320", after := #[{ on := 28, ground := Ground.data }, { on := 26, ground := Ground.chain }], guard := none } : Oper)) (v := ?_) rfl (by kernel_rfl) (by kernel_rfl) (by kernel_rfl) (fun _ _ _ h => h) (Or.inl ⟨by kernel_rfl, ?_⟩) (by assumption) ?_
  rotate_left
  ·intro W0 hSw; (try dsimp only at hSw); go_simp <;> with_reducible rfl
  try simp only [Act.put, ag, ah, ai]
  refine wpAnyH_take (i := 30) (oi := ({ dst := some 91, op := Op.move (Operand.tmp 14), type := 23, pos := "laws.go:320", after := #[{ on := 29, ground := Ground.guard }], guard := some (29, false) } : Oper)) (v := ?_) rfl (by kernel_rfl) (by kernel_rfl) (by kernel_rfl) (fun _ _ _ h => h) (Or.inl ⟨by kernel_rfl, ?_⟩) (by assumption) ?_
  rotate_left
  ·intro W0 hSw; (try dsimp only at hSw); go_simp <;> with_reducible rfl
  try simp only [Act.put, ag, ah, ai]
  refine wpAnyH_take (i := 31) (oi := ({ dst := some 92, op := Op.move (Operand.tmp 15), type := 24, pos := "laws.go:320", after := #[{ on := 29, ground := Ground.guard }], guard := some (29, false) } : Oper)) (v := ?_) rfl (by kernel_rfl) (by kernel_rfl) (by kernel_rfl) (fun _ _ _ h => h) (Or.inl ⟨by kernel_rfl, ?_⟩) (by assumption) ?_
  rotate_left
  ·intro W0 hSw; (try dsimp only at hSw); go_simp <;> with_reducible rfl
  try simp only [Act.put, ag, ah, ai]
  refine wpAnyH_take (i := 32) (oi := ({ dst := some 93, op := Op.move (Operand.tmp 16), type := 27, pos := "laws.go:320", after := #[{ on := 29, ground := Ground.guard }], guard := some (29, false) } : Oper)) (v := ?_) rfl (by kernel_rfl) (by kernel_rfl) (by kernel_rfl) (fun _ _ _ h => h) (Or.inl ⟨by kernel_rfl, ?_⟩) (by assumption) ?_
  rotate_left
  ·intro W0 hSw; (try dsimp only at hSw); go_simp <;> with_reducible rfl
  try simp only [Act.put, ag, ah, ai]
  refine wpAnyH_take (i := 34) (oi := ({ dst := some 95, op := Op.move (Operand.tmp 14), type := 23, pos := "laws.go:320", after := #[{ on := 29, ground := Ground.guard }], guard := some (29, false) } : Oper)) (v := ?_) rfl (by kernel_rfl) (by kernel_rfl) (by kernel_rfl) (fun _ _ _ h => h) (Or.inl ⟨by kernel_rfl, ?_⟩) (by assumption) ?_
  rotate_left
  ·intro W0 hSw; (try dsimp only at hSw); go_simp <;> with_reducible rfl
  try simp only [Act.put, ag, ah, ai]
  refine wpAnyH_take (i := 35) (oi := ({ dst := some 96, op := Op.move (Operand.tmp 15), type := 24, pos := "laws.go:320", after := #[{ on := 29, ground := Ground.guard }], guard := some (29, false) } : Oper)) (v := ?_) rfl (by kernel_rfl) (by kernel_rfl) (by kernel_rfl) (fun _ _ _ h => h) (Or.inl ⟨by kernel_rfl, ?_⟩) (by assumption) ?_
  rotate_left
  ·intro W0 hSw; (try dsimp only at hSw); go_simp <;> with_reducible rfl
  try simp only [Act.put, ag, ah, ai]
  refine wpAnyH_take (i := 36) (oi := ({ dst := some 97, op := Op.move (Operand.tmp 16), type := 27, pos := "laws.go:320", after := #[{ on := 29, ground := Ground.guard }], guard := some (29, false) } : Oper)) (v := ?_) rfl (by kernel_rfl) (by kernel_rfl) (by kernel_rfl) (fun _ _ _ h => h) (Or.inl ⟨by kernel_rfl, ?_⟩) (by assumption) ?_
  rotate_left
  ·intro W0 hSw; (try dsimp only at hSw); go_simp <;> with_reducible rfl
  try simp only [Act.put, ag, ah, ai]
  refine wpAnyH_ready (rs := [33]) (by kernel_rfl) (by simp) ?_
  refine (AllReadyH.cons rfl (fun K hK => ?_) AllReadyH.nil)
  go_simp
  refine (yy cF1 V7 ((yy HC4).kept (yy HV)).stars (ba (au (yy HP4) (yy HV))).1 (yy HNum4 _ (yy HV)) ((yy HE).kept (yy HV))).mono ?_
  rintro e V8 ⟨rfl, hx⟩
  replace HV := yz (aj (yy HV) hx)
  clear hx 
  refine hK.out _ _ ?_ (fun hHeld8 => ?_)
  ·exact yy HKS _ (yy HV)
  clear hK K
  refine wpAnyH_ready (rs := [37]) (by kernel_rfl) (by simp) ?_
  refine (AllReadyH.cons rfl (fun K hK => ?_) AllReadyH.nil)
  go_simp
  refine (yy cF2 V8 ((yy HC4).kept (yy HV)).stars (ba (au (yy HP4) (yy HV))).1 (yy HNum4 _ (yy HV))).mono ?_
  rintro e V9 ⟨rfl, hx⟩
  replace HV := yz (aj (yy HV) hx)
  clear hx 
  refine hK.out _ _ ?_ (fun hHeld9 => ?_)
  ·exact yy HKS _ (yy HV)
  clear hK K
  refine wpAnyH_take (i := 38) (oi := ({ dst := some 99, op := Op.binOp BinOp.neq 42 (Operand.tmp 94) (Operand.tmp 98) 42, type := 4, pos := "laws.go:320", after := #[{ on := 33, ground := Ground.data }, { on := 37, ground := Ground.data }, { on := 29, ground := Ground.guard }], guard := some (29, false) } : Oper)) (v := (.bool false)) rfl (by kernel_rfl) (by kernel_rfl) (by kernel_rfl) (fun _ _ _ h => h) (Or.inl ⟨by kernel_rfl, ?_⟩) (by assumption) ?_
  ·intro W0 hSw; (try dsimp only at hSw); go_simp <;> simp [hqo]
  try simp only [Act.put, ag, ah, ai]
  refine wpAnyH_take (i := 39) (oi := ({ dst := some 100, op := Op.pick (Operand.tmp 90) (Operand.const (Value.bool true)) (Operand.tmp 99), type := 4, pos := "laws.go:320", after := #[{ on := 29, ground := Ground.data }, { on := 38, ground := Ground.data }], guard := none } : Oper)) (v := (.bool false)) rfl (by kernel_rfl) (by kernel_rfl) (by kernel_rfl) (fun _ _ _ h => h) (Or.inl ⟨by kernel_rfl, ?_⟩) (by assumption) ?_
  ·intro W0 hSw; (try dsimp only at hSw); go_simp <;> simp
  try simp only [Act.put, ag, ah, ai]
  refine wpAnyH_take (i := 40) (oi := ({ dst := some 101, op := Op.move (Operand.tmp 100), type := 4, pos := "laws.go:320", after := #[{ on := 39, ground := Ground.data }, { on := 37, ground := Ground.chain }], guard := none } : Oper)) (v := ?_) rfl (by kernel_rfl) (by kernel_rfl) (by kernel_rfl) (fun _ _ _ h => h) (Or.inl ⟨by kernel_rfl, ?_⟩) (by assumption) ?_
  rotate_left
  ·intro W0 hSw; (try dsimp only at hSw); go_simp <;> with_reducible rfl
  try simp only [Act.put, ag, ah, ai]
  refine wpAnyH_take (i := 41) (oi := ({ dst := some 102, op := Op.move (Operand.tmp 6), type := 24, pos := "laws.go:320", after := #[{ on := 40, ground := Ground.guard }], guard := some (40, false) } : Oper)) (v := ?_) rfl (by kernel_rfl) (by kernel_rfl) (by kernel_rfl) (fun _ _ _ h => h) (Or.inl ⟨by kernel_rfl, ?_⟩) (by assumption) ?_
  rotate_left
  ·intro W0 hSw; (try dsimp only at hSw); go_simp <;> with_reducible rfl
  try simp only [Act.put, ag, ah, ai]
  refine wpAnyH_take (i := 43) (oi := ({ dst := some 104, op := Op.move (Operand.tmp 6), type := 24, pos := "laws.go:320", after := #[{ on := 40, ground := Ground.guard }], guard := some (40, false) } : Oper)) (v := ?_) rfl (by kernel_rfl) (by kernel_rfl) (by kernel_rfl) (fun _ _ _ h => h) (Or.inl ⟨by kernel_rfl, ?_⟩) (by assumption) ?_
  rotate_left
  ·intro W0 hSw; (try dsimp only at hSw); go_simp <;> with_reducible rfl
  try simp only [Act.put, ag, ah, ai]
  refine wpAnyH_ready (rs := [42]) (by kernel_rfl) (by simp) ?_
  refine (AllReadyH.cons rfl (fun K hK => ?_) AllReadyH.nil)
  go_simp
  refine (yy cP1 V9 (ba (au (yy HP) (yy HV))).1).mono ?_
  rintro e V10 ⟨rfl, hx⟩
  replace HV := yz (aj (yy HV) hx)
  clear hx 
  refine hK.out _ _ ?_ (fun hHeld10 => ?_)
  ·exact yy HKS _ (yy HV)
  clear hK K
  refine wpAnyH_ready (rs := [44]) (by kernel_rfl) (by simp) ?_
  refine (AllReadyH.cons rfl (fun K hK => ?_) AllReadyH.nil)
  go_simp
  refine (yy cP2 V10 (ba (au (yy HP) (yy HV))).1).mono ?_
  rintro e V11 ⟨rfl, hx⟩
  replace HV := yz (aj (yy HV) hx)
  clear hx 
  refine hK.out _ _ ?_ (fun hHeld11 => ?_)
  ·exact yy HKS _ (yy HV)
  clear hK K
  refine wpAnyH_take (i := 45) (oi := ({ dst := some 106, op := Op.binOp BinOp.neq 4 (Operand.tmp 103) (Operand.tmp 105) 4, type := 4, pos := "laws.go:320", after := #[{ on := 42, ground := Ground.data }, { on := 44, ground := Ground.data }, { on := 40, ground := Ground.guard }], guard := some (40, false) } : Oper)) (v := (.bool false)) rfl (by kernel_rfl) (by kernel_rfl) (by kernel_rfl) (fun _ _ _ h => h) (Or.inl ⟨by kernel_rfl, ?_⟩) (by assumption) ?_
  ·intro W0 hSw; (try dsimp only at hSw); go_simp <;> simp
  try simp only [Act.put, ag, ah, ai]
  refine wpAnyH_take (i := 46) (oi := ({ dst := some 107, op := Op.pick (Operand.tmp 101) (Operand.const (Value.bool true)) (Operand.tmp 106), type := 4, pos := "laws.go:320", after := #[{ on := 40, ground := Ground.data }, { on := 45, ground := Ground.data }], guard := none } : Oper)) (v := (.bool false)) rfl (by kernel_rfl) (by kernel_rfl) (by kernel_rfl) (fun _ _ _ h => h) (Or.inl ⟨by kernel_rfl, ?_⟩) (by assumption) ?_
  ·intro W0 hSw; (try dsimp only at hSw); go_simp <;> simp
  try simp only [Act.put, ag, ah, ai]
  refine wpAnyH_done (by kernel_rfl) ?_ _
  go_wp2_with fail
  go_meet
  exact ⟨_, rfl, rfl, HV⟩
 case rest => as_aux_lemma =>
  obtain ⟨wv, hwv, hu, HV⟩ := hcut
  subst hu
  clear hwv wv HKS cS1 cOX cN1 cN2 cM1 cM2 cOM cF1 cF2 cP1 cP2 hqo HNum2 HNum4 HC2 HP2 HI2 HC3 HP3 HC4 HP4 HI4 HU hcq2 hsq2 hcq3 hsq3 hcq4 hsq4 hic2 hic4 hml
  have hx := yy HV
  replace HE := yz ((yy HE).kept hx)
  replace HC : Hid (aE _ w.heap.size L sa sc) := yz ((yy HC).kept hx)
  replace HP := yz (au (yy HP) hx)
  replace HB := yz (aj (yy HB) hx)
  replace HN := yz ((yy HN).kept hx)
  replace HX := yz ((yy HX).kept hx)
  clear hx HV
  have x2 := (yy HX).cell 2 _ rfl
  go_upto_if 110 with fail
  go_cut [4] (fun v wx => ∃ wv : World, wv = wx ∧ v = .bool false ∧ Hid (Below wc.heap.size wc wx))
  case first => as_aux_lemma =>
   by_cases hk0 : ¬ kd = 0
   ·have hk1 : (kd == 0) = false := by simpa using hk0
    go_wp2_with fail
    go_meet
    exact ⟨_, rfl, rfl, yz (Below.refl _ _)⟩
   replace hk0 : kd = 0 := Decidable.not_not.mp hk0
   subst hk0
   obtain ⟨t1, t2, t3⟩ := yy HT3 rfl
   have T1 := yz t1
   have T3 := yz t3
   subst t2
   clear t1 t3 HT3
   have x0 := (yy HX).cell 0 _ rfl
   have x1 := (yy HX).cell 1 _ rfl
   have HN1 := HN
   have hNN : ∃ ib io, xa = some ⟨ib, io, none⟩ ∧ ∀ i, i < ids.length → wc.cell? ⟨ib, io + i, none⟩ = some (.int .i64 (ids.getD i 0)) := by
    rcases yy HN with h0 | ⟨ib, io, h, _, hc⟩
    ·exfalso
     have h1 := eY ids
     have h2 := yy T3
     omega
    ·exact ⟨ib, io, h, hc⟩
   obtain ⟨ib, io, hxa, hic⟩ := hNN
   subst hxa
   have HIC := yz hic
   clear hic
   have HTK : Hid (aD (ids.take ids.length) = aD ids) := yz (by rw [List.take_length])
   go_wp2_with fail
   go_loop [17, 18] (fun q i => ∃ k : Nat, k ≤ ids.length ∧ i = .int .i64 k ∧ q = .int .i64 (aD (ids.take k) : Int)) (fun _ i => ids.length - (intOf i).toNat)
   case atStart => exact ⟨0, Nat.zero_le _, rfl, rfl⟩
   case round =>
    obtain ⟨k, hkl, rfl, rfl⟩ := hrel
    by_cases hkn : k < ids.length
    ·have c0 := yy HIC k hkn
     have HS := yz (ml ids hkn)
     have hle := eY (ids.take k)
     rw [List.length_take] at hle
     have hle2 : (aD (ids.take k) : Int) ≤ 1048576 := by omega
     have hkn2 : (k : Int) < (ids.length : Int) := by omega
     generalize ids.getD k 0 = z at *
     by_cases hz : z = 0
     ·have HS2 : Hid (aD (ids.take (k + 1)) = aD (ids.take k)) := yz (by rw [yy HS, if_neg (by simpa using hz)]; rfl)
      subst hz
      go_wp2_with fail
      go_round
      case rel => exact ⟨k + 1, by omega, by go_num, by rw [yy HS2]⟩
      case measure => simp [intOf]; omega
     ·have HS2 : Hid (aD (ids.take (k + 1)) = aD (ids.take k) + 1) := yz (by rw [yy HS, if_pos hz])
      have hz1 : (z == 0) = false := by simpa using hz
      go_wp2_with fail
      go_round
      case rel => exact ⟨k + 1, by omega, by go_num, by rw [yy HS2]; go_num⟩
      case measure => simp [intOf]; omega
    ·obtain rfl : k = ids.length := by omega
     rw [yy HTK]
     have hc3 := yy T3
     have hcn : ¬ (aD ids : Int) < 3 := by omega
     have cN := yz (ec L S ids sa pa (some ⟨ib, io, none⟩) sc pc xk p wc (by omega) (yy HC).capMax.1 hcq (by omega) hsq.1 (by omega) (by omega) (yy HC).stars (ba (yy HP)).1 (yy HN1) (yy HE))
     rw [yy T1] at cN
     generalize aD ids = cn at *
     have hcc : ((cn : Int) == (cn : Int)) = true := by simp
     go_wp2_with fail
     refine (yy cN).mono ?_
     rintro e V1 ⟨rfl, hx⟩
     have HV1 := yz hx
     clear hx cN
     go_wp2_with fail
     go_meet
     exact ⟨_, rfl, rfl, HV1⟩
  case rest => as_aux_lemma =>
   obtain ⟨wv, hwv, hu, HV⟩ := hcut
   subst hu
   clear hwv wv x2 HT3
   have hx := yy HV
   replace HE := yz ((yy HE).kept hx)
   replace HB := yz (aj (yy HB) hx)
   clear hx HV HC HP HN HX hsq hcq
   go_wp2_with fail
   refine (nc da len2 dc _ hl2 ((yy HR2).upI (yy HB).size (yy HB).block)).mono ?_
   rintro e U1 ⟨M, ma, mc, a, b, c, d, cone, rfl, hm1, hCM, hx⟩
   replace HE := yz ((yy HE).kept hx)
   replace HB := yz (aj (yy HB) hx)
   have HCM := yz hCM
   clear hx hCM HR2
   have hy := ak U1 (.cells #[.int .i64 a, .int .i64 b, .int .i64 c, .int .i64 d] 34)
   have HTB := yz (aO U1 [.int .i64 a, .int .i64 b, .int .i64 c, .int .i64 d] 34)
   replace HE := yz ((yy HE).kept hy)
   replace HB := yz (aj (yy HB) hy)
   replace HCM := yz ((yy HCM).kept hy)
   clear hy
   go_upto_region 20 with fail
   generalize U1.alloc (.cells #[.int .i64 a, .int .i64 b, .int .i64 c, .int .i64 d] 34) = U2 at *
   generalize U1.heap.size = tb at *
   obtain ⟨t0, t1, t2, t3⟩ : U2.cell? ⟨tb, 0, none⟩ = some (.int .i64 a) ∧ U2.cell? ⟨tb, 1, none⟩ = some (.int .i64 b) ∧ U2.cell? ⟨tb, 2, none⟩ = some (.int .i64 c) ∧ U2.cell? ⟨tb, 3, none⟩ = some (.int .i64 d) := ⟨(yy HTB).cell 0 _ rfl, (yy HTB).cell 1 _ rfl, (yy HTB).cell 2 _ rfl, (yy HTB).cell 3 _ rfl⟩
   go_wp2_with fail
   refine (oM M a b c d cone ma mc U2 (by omega) (yy HCM).stars).mono ?_
   rintro e U3 ⟨qa, ja, qc, jc, rfl, hSP, hIP, hx⟩
   clear t0 t1 t2 t3
   replace HE := yz ((yy HE).kept hx)
   replace HB := yz (aj (yy HB) hx)
   replace HCM := yz ((yy HCM).kept hx)
   replace HTB := yz ((yy HTB).kept hx)
   clear hx
   have hsl := fJ M a b c d cone
   have hs6 := nO M a b c d cone
   have HF1 : Hid (aL M = true → aC a b c d = true → aN M (scS M a b c d cone) (scI M a b c d cone) = true ∧ aX M a b c d (scS M a b c d cone) = scI M a b c d cone) := yz (fun h1 h2 => ⟨pg cone h1 h2, sK cone h1 h2⟩)
   have HF2 : Hid (aL M = true → aC a b c d = true → 3 ≤ (scI M a b c d cone).length → _) := yz (fun h1 h2 h3 => tB cone h1 h2 h3)
   have HF3 : Hid (aL M = true → aC a b c d = true → 3 ≤ (scI M a b c d cone).length → _) := yz (fun h1 h2 h3 k1 k2 k3 k4 => tC cone h1 h2 h3 k1 k2 k3 k4)
   generalize scS M a b c d cone = Q at *
   generalize scI M a b c d cone = N at *
   have HQ := yz hSP
   have HNI := yz hIP
   clear hSP hIP
   have hqq := (ba (yy HQ)).2
   have hmq : mc ≤ 9223372036854775807 := by have := (yy HCM).capMax.2; omega
   have hjc : N.length ≤ jc := iQ (yy HNI) (by decide)
   go_wp2_with fail
   refine (dl M ma mc U3 (by omega) (yy HCM).stars).mono ?_
   rintro e U4 ⟨rfl, hx⟩
   replace HE := yz ((yy HE).kept hx)
   replace HB := yz (aj (yy HB) hx)
   replace HCM := yz ((yy HCM).kept hx)
   replace HTB := yz ((yy HTB).kept hx)
   replace HQ := yz (au (yy HQ) hx)
   replace HNI := yz (au (yy HNI) hx)
   clear hx
   cases hsk : aL M
   ·go_wp2_with fail
    go_ret
    exact ⟨rfl, yy HB⟩
   obtain ⟨t0, t1, t2, t3⟩ : U4.cell? ⟨tb, 0, none⟩ = some (.int .i64 a) ∧ U4.cell? ⟨tb, 1, none⟩ = some (.int .i64 b) ∧ U4.cell? ⟨tb, 2, none⟩ = some (.int .i64 c) ∧ U4.cell? ⟨tb, 3, none⟩ = some (.int .i64 d) := ⟨(yy HTB).cell 0 _ rfl, (yy HTB).cell 1 _ rfl, (yy HTB).cell 2 _ rfl, (yy HTB).cell 3 _ rfl⟩
   go_wp2_with fail
   refine (bn a b c d U4).mono ?_
   rintro e U5 ⟨rfl, hx⟩
   clear t0 t1 t2 t3
   replace HE := yz ((yy HE).kept hx)
   replace HB := yz (aj (yy HB) hx)
   replace HCM := yz ((yy HCM).kept hx)
   replace HTB := yz ((yy HTB).kept hx)
   replace HQ := yz (au (yy HQ) hx)
   replace HNI := yz (au (yy HNI) hx)
   clear hx
   cases hrt : aC a b c d
   ·go_wp2_with fail
    go_ret
    exact ⟨rfl, yy HB⟩
   by_cases h3 : ((N.length : Nat) : Int) < 3
   ·go_wp2_with fail
    go_ret
    exact ⟨rfl, yy HB⟩
   have SK := yz hsk
   have RT := yz hrt
   obtain ⟨n1, n2⟩ := yy HF1 hsk hrt
   have N1 := yz n1
   have N2 := yz n2
   have F2 := yz (yy HF2 hsk hrt (by omega))
   have F3 := yz (yy HF3 hsk hrt (by omega))
   clear n1 n2 hsk hrt HF1 HF2 HF3
   have cY := yz (kX M Q ma qa mc qc p U5 (by omega) (by omega) (yy HCM).capMax.1 hmq hqq.1 (by omega) (yy HCM).stars (ba (yy HQ)).1 (fun x e => (bX (yy HCM) x e).2) (fun x e => (bX (yy HQ) x e).2) (yy HE))
   obtain ⟨yi, HYI⟩ : ∃ u, u = bl M Q := ⟨_, rfl⟩
   obtain ⟨yt, HYT⟩ : ∃ u, u = bT M Q := ⟨_, rfl⟩
   obtain ⟨yk, HYK⟩ : ∃ u, u = bH M Q := ⟨_, rfl⟩
   rw [← HYI, ← HYT, ← HYK, hsl] at cY
   rw [← HYI, ← HYK] at F2
   clear HYI HYT HYK
   go_wp2_with fail
   refine (yy cY).mono ?_
   rintro e U6 ⟨⟨ya, yc, rfl, hYN⟩, hx⟩
   replace HE := yz ((yy HE).kept hx)
   replace HB := yz (aj (yy HB) hx)
   replace HCM := yz ((yy HCM).kept hx)
   replace HTB := yz ((yy HTB).kept hx)
   replace HQ := yz (au (yy HQ) hx)
   replace HNI := yz (au (yy HNI) hx)
   have HYN := yz hYN
   clear hx hYN cY
   have hy := ak U6 (.cells #[.slice ya yi.length yc, .int .i64 yt, .int .i64 yk] 29)
   have HYB := yz (aO U6 [.slice ya yi.length yc, .int .i64 yt, .int .i64 yk] 29)
   replace HE := yz ((yy HE).kept hy)
   replace HB := yz (aj (yy HB) hy)
   replace HCM := yz ((yy HCM).kept hy)
   replace HTB := yz ((yy HTB).kept hy)
   replace HQ := yz (au (yy HQ) hy)
   replace HNI := yz (au (yy HNI) hy)
   replace HYN := yz ((yy HYN).kept hy)
   clear hy
   go_upto_region 24 with fail
   generalize U6.alloc (.cells #[.slice ya yi.length yc, .int .i64 yt, .int .i64 yk] 29) = U7 at *
   generalize U6.heap.size = yb at *
   have y2 := (yy HYB).cell 2 _ rfl
   have cNa := yz (ec M Q N ma qa ja mc qc jc p U7 (by omega) (yy HCM).capMax.1 hmq (by omega) hqq.1 (by omega) (by omega) (yy HCM).stars (ba (yy HQ)).1 (eS (yy HNI)) (yy HE))
   rw [yy N1, hsl] at cNa
   have cMa := yz (fun (W : World) (hS : aJ W ma M M.length) (hD : bi W qa Q Q.length) (hE : bg p W) => lg M Q ma qa mc qc a b c d p W (by omega) (yy HCM).capMax.1 hmq (by omega) hqq.1 (by omega) hS hD hE)
   rw [yy N2, hsl] at cMa
   have HYQ : Hid (yk = 0 ∧ yi = N ∨ yk = 11) := F2
   go_cut [194] (fun v wx => ∃ wv : World, wv = wx ∧ v = .bool false ∧ Hid (Below U7.heap.size U7 wx))
   case first => as_aux_lemma =>
    rcases yy HYQ with ⟨e1, _⟩ | e1
    ·subst e1
     go_wp2_with fail
     refine (yy cNa).mono ?_
     rintro e V1 ⟨rfl, hx⟩
     have HV := yz hx
     clear hx y2 cNa
     obtain ⟨t0, t1, t2, t3⟩ : V1.cell? ⟨tb, 0, none⟩ = some (.int .i64 a) ∧ V1.cell? ⟨tb, 1, none⟩ = some (.int .i64 b) ∧ V1.cell? ⟨tb, 2, none⟩ = some (.int .i64 c) ∧ V1.cell? ⟨tb, 3, none⟩ = some (.int .i64 d) := ⟨((yy HTB).kept (yy HV)).cell 0 _ rfl, ((yy HTB).kept (yy HV)).cell 1 _ rfl, ((yy HTB).kept (yy HV)).cell 2 _ rfl, ((yy HTB).kept (yy HV)).cell 3 _ rfl⟩
     go_wp2_with fail
     refine (yy cMa V1 ((yy HCM).kept (yy HV)).stars (by rw [← hsl]; exact (ba (au (yy HQ) (yy HV))).1) ((yy HE).kept (yy HV))).mono ?_
     rintro e V2 ⟨⟨va, vc, rfl, hNv⟩, hx⟩
     replace HV := yz (aj (yy HV) hx)
     clear hx t0 t1 t2 t3
     go_wp2_with fail
     refine (eh N va ja vc jc V2 (by omega) hNv (eS (au (yy HNI) (yy HV)))).mono ?_
     rintro e V3 ⟨rfl, hx⟩
     replace HV := yz (aj (yy HV) hx)
     clear hx hNv
     go_wp2_with fail
     go_meet
     exact ⟨_, rfl, rfl, HV⟩
    ·subst e1
     go_wp2_with fail
     refine (yy cNa).mono ?_
     rintro e V1 ⟨rfl, hx⟩
     have HV := yz hx
     clear hx y2 cNa
     obtain ⟨t0, t1, t2, t3⟩ : V1.cell? ⟨tb, 0, none⟩ = some (.int .i64 a) ∧ V1.cell? ⟨tb, 1, none⟩ = some (.int .i64 b) ∧ V1.cell? ⟨tb, 2, none⟩ = some (.int .i64 c) ∧ V1.cell? ⟨tb, 3, none⟩ = some (.int .i64 d) := ⟨((yy HTB).kept (yy HV)).cell 0 _ rfl, ((yy HTB).kept (yy HV)).cell 1 _ rfl, ((yy HTB).kept (yy HV)).cell 2 _ rfl, ((yy HTB).kept (yy HV)).cell 3 _ rfl⟩
     go_wp2_with fail
     refine (yy cMa V1 ((yy HCM).kept (yy HV)).stars (by rw [← hsl]; exact (ba (au (yy HQ) (yy HV))).1) ((yy HE).kept (yy HV))).mono ?_
     rintro e V2 ⟨⟨va, vc, rfl, hNv⟩, hx⟩
     replace HV := yz (aj (yy HV) hx)
     clear hx t0 t1 t2 t3
     go_wp2_with fail
     refine (eh N va ja vc jc V2 (by omega) hNv (eS (au (yy HNI) (yy HV)))).mono ?_
     rintro e V3 ⟨rfl, hx⟩
     replace HV := yz (aj (yy HV) hx)
     clear hx hNv
     go_wp2_with fail
     go_meet
     exact ⟨_, rfl, rfl, HV⟩
   case rest => as_aux_lemma =>
    obtain ⟨wv, hwv, hu, HV⟩ := hcut
    subst hu
    clear hwv wv cNa cMa y2
    have hx := yy HV
    replace HE := yz ((yy HE).kept hx)
    replace HB := yz (aj (yy HB) hx)
    replace HCM := yz ((yy HCM).kept hx)
    replace HTB := yz ((yy HTB).kept hx)
    replace HQ := yz (au (yy HQ) hx)
    replace HNI := yz (au (yy HNI) hx)
    replace HYN := yz ((yy HYN).kept hx)
    replace HYB := yz ((yy HYB).kept hx)
    clear hx HV
    go_upto_region 26 with fail
    have HBM : Hid (0 ≤ a) := yz (oZ (yy RT))
    obtain ⟨t0, t1, t2, t3⟩ := pu (yy HTB)
    go_cut [25] (fun v wx => ∃ (wv : World) (sm : Bool), wv = wx ∧ v = .bool sm ∧ Hid (sm = true → (a ≤ 2 ∧ (-2 ≤ b ∧ b ≤ 2) ∧ (-2 ≤ c ∧ c ≤ 2) ∧ (-2 ≤ d ∧ d ≤ 2))) ∧ Hid (Below wc.heap.size wc wx))
    case first => as_aux_lemma =>
     by_cases s0 : ¬ (a ≤ 2)
     ·go_wp2_with fail
      go_meet
      exact ⟨_, false, rfl, rfl, yz (fun h => by cases h), yz (Below.refl _ _)⟩
     replace s0 : a ≤ 2 := Decidable.not_not.mp s0
     by_cases s1 : ¬ (b ≤ 2)
     ·go_wp2_with fail
      go_meet
      exact ⟨_, false, rfl, rfl, yz (fun h => by cases h), yz (Below.refl _ _)⟩
     replace s1 : b ≤ 2 := Decidable.not_not.mp s1
     by_cases s2 : ¬ (c ≤ 2)
     ·go_wp2_with fail
      go_meet
      exact ⟨_, false, rfl, rfl, yz (fun h => by cases h), yz (Below.refl _ _)⟩
     replace s2 : c ≤ 2 := Decidable.not_not.mp s2
     by_cases s3 : ¬ (d ≤ 2)
     ·go_wp2_with fail
      go_meet
      exact ⟨_, false, rfl, rfl, yz (fun h => by cases h), yz (Below.refl _ _)⟩
     replace s3 : d ≤ 2 := Decidable.not_not.mp s3
     by_cases s4 : ¬ (-2 ≤ b)
     ·go_wp2_with fail
      go_meet
      exact ⟨_, false, rfl, rfl, yz (fun h => by cases h), yz (Below.refl _ _)⟩
     replace s4 : -2 ≤ b := Decidable.not_not.mp s4
     by_cases s5 : ¬ (-2 ≤ c)
     ·go_wp2_with fail
      go_meet
      exact ⟨_, false, rfl, rfl, yz (fun h => by cases h), yz (Below.refl _ _)⟩
     replace s5 : -2 ≤ c := Decidable.not_not.mp s5
     by_cases s6 : ¬ (-2 ≤ d)
     ·go_wp2_with fail
      go_meet
      exact ⟨_, false, rfl, rfl, yz (fun h => by cases h), yz (Below.refl _ _)⟩
     replace s6 : -2 ≤ d := Decidable.not_not.mp s6
     go_wp2_with fail
     go_meet
     exact ⟨_, true, rfl, rfl, yz (fun _ => by omega), yz (Below.refl _ _)⟩
    case rest => as_aux_lemma =>
     obtain ⟨wv, sm, hwv, hu, HSM, HV⟩ := hcut
     subst hu
     clear hwv wv t0 t1 t2 t3
     have hx := yy HV
     replace HE := yz ((yy HE).kept hx)
     replace HB := yz (aj (yy HB) hx)
     replace HCM := yz ((yy HCM).kept hx)
     replace HTB := yz ((yy HTB).kept hx)
     replace HQ := yz (au (yy HQ) hx)
     replace HNI := yz (au (yy HNI) hx)
     replace HYN := yz ((yy HYN).kept hx)
     replace HYB := yz ((yy HYB).kept hx)
     clear hx HV
     have cZ := yz (fun (W : World) (hE : bg p W) (hS : aJ W ma M M.length) (hD : bi W qa Q Q.length) (hI : bF W ja N N.length) => fP M Q N ma qa ja mc qc jc p W (by omega) (yy HCM).capMax.1 hmq (by omega) hqq.1 (by omega) (by omega) hS hD hI hE)
     obtain ⟨⟨⟨f1, f2, f3, f4⟩, fk⟩, HFV⟩ : ∃ u, u = eN M Q N := ⟨_, rfl⟩
     have HZ : Hid (sm = true → f1 = a ∧ f2 = b ∧ f3 = c ∧ f4 = d ∧ fk = 0) := yz (fun h => by obtain ⟨k1, k2, k3, k4⟩ := yy HSM h; have e := yy F3 ⟨by have := yy HBM; omega, k1⟩ k2 k3 k4; rw [← HFV] at e; injection e with e1 e2; injection e1 with e3 e4; injection e4 with e5 e6; injection e6 with e7 e8; exact ⟨e3, e5, e7, e8, e2⟩)
     rw [← HFV, hsl] at cZ
     clear HFV F3 HSM
     unfold rt at cZ
     dsimp only at cZ
     go_wp2_with fail
     refine (yy cZ _ (yy HE) (yy HCM).stars (by rw [← hsl]; exact (ba (yy HQ)).1) (eS (yy HNI))).mono ?_
     rintro e X1 ⟨rfl, hx⟩
     replace HE := yz ((yy HE).kept hx)
     replace HB := yz (aj (yy HB) hx)
     replace HCM := yz ((yy HCM).kept hx)
     replace HTB := yz ((yy HTB).kept hx)
     replace HQ := yz (au (yy HQ) hx)
     replace HNI := yz (au (yy HNI) hx)
     replace HYN := yz ((yy HYN).kept hx)
     replace HYB := yz ((yy HYB).kept hx)
     clear hx cZ
     have hy := ak X1 (.cells #[.int .i64 f1, .int .i64 f2, .int .i64 f3, .int .i64 f4, .int .i64 fk] 42)
     have HZB := yz (aO X1 [.int .i64 f1, .int .i64 f2, .int .i64 f3, .int .i64 f4, .int .i64 fk] 42)
     replace HE := yz ((yy HE).kept hy)
     replace HB := yz (aj (yy HB) hy)
     replace HCM := yz ((yy HCM).kept hy)
     replace HTB := yz ((yy HTB).kept hy)
     replace HQ := yz (au (yy HQ) hy)
     replace HNI := yz (au (yy HNI) hy)
     replace HYN := yz ((yy HYN).kept hy)
     replace HYB := yz ((yy HYB).kept hy)
     clear hy
     go_upto_region 28 with fail
     generalize X1.alloc (.cells #[.int .i64 f1, .int .i64 f2, .int .i64 f3, .int .i64 f4, .int .i64 fk] 42) = X2 at *
     generalize X1.heap.size = zb at *
     have y2 := (yy HYB).cell 2 _ rfl
     have y0 := (yy HYB).cell 0 _ rfl
     obtain ⟨z0, z1, z2, z3, z4⟩ := kD (yy HZB)
     obtain ⟨t0, t1, t2, t3⟩ := pu (yy HTB)
     have hqt := qR a b c d
     rcases yy HYQ with ⟨e1, e2⟩ | e1
     ·subst e1
      subst e2
      go_wp2_with fail
      refine (eh _ ya ja yc jc X2 (by omega) (yy HYN) (eS (yy HNI))).mono ?_
      rintro e X3 ⟨rfl, hx⟩
      replace HE := yz ((yy HE).kept hx)
      replace HB := yz (aj (yy HB) hx)
      replace HCM := yz ((yy HCM).kept hx)
      replace HTB := yz ((yy HTB).kept hx)
      replace HQ := yz (au (yy HQ) hx)
      replace HNI := yz (au (yy HNI) hx)
      replace HYN := yz ((yy HYN).kept hx)
      replace HYB := yz ((yy HYB).kept hx)
      replace HZB := yz ((yy HZB).kept hx)
      clear hx y0 y2 z0 z1 z2 z3 z4 t0 t1 t2 t3
      obtain ⟨z0, z1, z2, z3, z4⟩ := kD (yy HZB)
      obtain ⟨t0, t1, t2, t3⟩ := pu (yy HTB)
      cases sm
      ·go_wp2_with fail
       go_ret
       exact ⟨rfl, yy HB⟩
      ·obtain ⟨rfl, rfl, rfl, rfl, rfl⟩ := yy HZ rfl
       go_wp2_with fail
       go_ret
       exact ⟨rfl, yy HB⟩
     ·subst e1
      cases sm
      ·go_wp2_with fail
       go_ret
       exact ⟨rfl, yy HB⟩
      ·obtain ⟨rfl, rfl, rfl, rfl, rfl⟩ := yy HZ rfl
       go_wp2_with fail
       go_ret
       exact ⟨rfl, yy HB⟩
end
end Go.Proofs.YtoakkmjcbnfljaaGreatDoor
