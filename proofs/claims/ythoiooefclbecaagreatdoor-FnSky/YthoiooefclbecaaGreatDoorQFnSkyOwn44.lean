/- Several texts in one: SyA. -/
import Derived.Test.YthoiooefclbecaaGreatDoorQFnSkyOwn43
import Derived.Test.YthoiooefclbecaaGreatDoorQFnSkyOwn1
namespace Go.Proofs.YthoiooefclbecaaGreatDoor
set_option linter.unusedVariables false
set_option linter.unusedSimpArgs false
set_option maxRecDepth 100000
set_option maxHeartbeats 8000000
section
open Go.RowKit Go.Sort
theorem fK (t : ByteArray) (w : World) : (binOp .neq 9 (.string t) (.string t)).run Tryz.prog w = .ok (.bool false) w := by
 simp [go_sem]
theorem rX {a b : ByteArray} (h : a ≠ b) : (a.toList == b.toList) = false := by
 rw [ByteArray.toList_eq, ByteArray.toList_eq]
 simp
 intro e
 exact h (ByteArray.ext e)
theorem ie {tx : ByteArray} (h : tx.size ≠ 0) : tx.toList ≠ [] := by
 intro e
 have h2 := rX (a := tx) (b := ⟨#[]⟩) (fun e => h (by rw [e]; rfl))
 rw [e] at h2
 exact absurd h2 (by rw [show (ByteArray.mk #[]).toList = [] from by first | kernel_rfl | rfl | decide | (unfold ByteArray.toList; rw [ByteArray.toList.loop]; rfl)]; decide)
theorem oP (tx : ByteArray) (h : tx.size ≠ 0) (w : World) : (binOp .neq 9 (.string tx) (.string ⟨#[]⟩)).run Tryz.prog w = .ok (.bool true) w := by
 have h1 := ie h
 simp [go_sem, h1]
theorem qQ {L : List St} (h : aB L = true) : eq (dO L) = L ∧ gg (dO L) = 0 := by
 unfold eq gg
 rw [rO h]
 exact ⟨rfl, rfl⟩
theorem sH {n m : Nat} (h : n ≤ 12) (hm : m = n * (n - 1) / 2) : wrap64 ((n : Int) - 1) = (n : Int) - 1 ∧ wrap64 ((n : Int) * ((n : Int) - 1)) = (n : Int) * ((n : Int) - 1) ∧ ((n : Int) * ((n : Int) - 1)).tdiv 2 = (m : Int) := by
 subst hm
 rcases (by omega : n = 0 ∨ n = 1 ∨ n = 2 ∨ n = 3 ∨ n = 4 ∨ n = 5 ∨ n = 6 ∨ n = 7 ∨ n = 8 ∨ n = 9 ∨ n = 10 ∨ n = 11 ∨ n = 12) with rfl | rfl | rfl | rfl | rfl | rfl | rfl | rfl | rfl | rfl | rfl | rfl | rfl <;> exact ⟨au (by omega) (by omega), au (by omega) (by omega), rfl⟩
theorem qA {u : ByteArray} (h : gg u = 0) : dO (eq u) = u := by
 unfold gg at h
 unfold eq
 cases hr : eo u with
 | error c =>
  rw [hr] at h
  dsimp only at h
  exfalso
  revert hr
  unfold eo
  split
  ·cases hg : bE (unT u) with
   | none => intro hr; injection hr with e; omega
   | some L => intro hr; cases hr
  ·rename_i hu
   intro hr
   injection hr with e
   omega
 | ok L => exact (nU hr).2
theorem qy (u : ByteArray) : (eq u).length ≤ 12 := by
 unfold eq
 cases hr : eo u with
 | error c => exact Nat.zero_le _
 | ok L => exact (aQ (nU hr).1).1
theorem lE (L : List St) : (aC L).length ≤ 144 := by
 unfold aC
 split
 ·rename_i h
  have h12 := (aQ h).1
  have := gF L h12 L.length (Nat.le_refl _)
  omega
 ·exact Nat.zero_le _
theorem lh (L : List St) (a b : V3) : (aP L a b).length ≤ 144 := by
 unfold aP
 split
 ·rename_i h
  have hk : aB L = true := by unfold fD at h; simp only [Bool.and_eq_true] at h; exact h.1.1
  have e := (ed hk L.length (Nat.le_refl _)).1
  have h2 := lE L
  unfold aC at h2
  rw [if_pos hk, ← e, List.length_map] at h2
  rw [List.length_map]
  exact Nat.le_trans (List.length_filter_le _ _) h2
 ·exact Nat.zero_le _
theorem tf (ca da : Option Addr) (len cc len2 dc : Nat) (p : Addr) (w : World) (hl : len ≤ 1048576) (hl2 : len2 ≤ 1048576) (hR : Row w ca len w.heap.size) (hR2 : Row w da len2 w.heap.size) (hE : aU p w) :
  Calls Tryz.prog 3 #[.slice ca len cc, .slice da len2 dc] w fun e w' => e = .returned (.bool true) ∧ Below w.heap.size w w' := by
 have h1 : ¬ (1048576 : Int) < (len : Int) := by omega
 have h2 : ¬ (1048576 : Int) < (len2 : Int) := by omega
 have hmx : maxLen ≤ 9223372036854775807 := by decide +kernel
 have cD := yz (it ca len cc w hl hR)
 have HR := yz hR
 have HR2 := yz hR2
 have HE := yz hE
 clear hR hR2 hE
 go_enter Tryz.func3, Tryz.ntmps3
 go_wp2_with fail
 refine (yy cD).mono ?_
 rintro e W1 ⟨L, sa, sc, rfl, hl1, hC1, hB1⟩
 replace HE := yz ((yy HE).kept hB1)
 have HC := yz hC1
 have HB := yz hB1
 clear hC1 hB1 cD h1 h2
 have hcm := (yy HC).capMax
 have hcq : sc ≤ 9223372036854775807 := by omega
 have hts := lK L (by omega)
 obtain ⟨tx, HTX⟩ : ∃ u, u = dO L := ⟨_, rfl⟩
 rw [← HTX] at hts
 replace HTX := yz HTX
 go_wp2_with fail
 refine ((fb L sa sc p W1 (by omega) hcm.1 hcq (yy HC).stars (yy HE)).mono (fun e w2 h => (by rw [yy HTX]; exact h : e = .returned (.string tx) ∧ Below W1.heap.size W1 w2))).mono ?_
 rintro e W2 ⟨rfl, hx⟩
 replace HE := yz ((yy HE).kept hx)
 replace HC : Hid (ap _ w.heap.size L sa sc) := yz ((yy HC).kept hx)
 replace HB := yz (ak (yy HB) hx)
 clear hx
 go_wp2_with fail
 refine (jn da len2 dc W2 hl2 ((yy HR2).upI (yy HB).size (yy HB).block)).mono ?_
 rintro e W3 ⟨u, rfl, hus, hx⟩
 replace HE := yz ((yy HE).kept hx)
 replace HC : Hid (ap _ w.heap.size L sa sc) := yz ((yy HC).kept hx)
 replace HB := yz (ak (yy HB) hx)
 clear hx
 have cX := yz (lG u p W3 (by omega) (yy HE))
 have cXS := yz (fun (W : World) => qz u W (by omega))
 obtain ⟨X, HXE⟩ : ∃ x, x = eq u := ⟨_, rfl⟩
 obtain ⟨xk, HXK⟩ : ∃ x, x = gg u := ⟨_, rfl⟩
 have HXF : Hid (xk = 0 → dO X = u) := yz (fun h => by rw [HXE]; rw [HXK] at h; exact qA h)
 have hxl : X.length ≤ 12 := by rw [HXE]; exact qy u
 rw [← HXE, ← HXK] at cX cXS
 clear HXE HXK
 go_wp2_with fail
 refine (yy cX).mono ?_
 rintro e W4 ⟨⟨xa, xc, rfl, hCX⟩, hx⟩
 replace HE := yz ((yy HE).kept hx)
 replace HC : Hid (ap _ w.heap.size L sa sc) := yz ((yy HC).kept hx)
 replace HB := yz (ak (yy HB) hx)
 have HCX := yz hCX
 clear hx hCX cX
 have hy := am W4 (.cells #[.slice xa X.length xc, .int .i64 xk] 28)
 have HX := yz (bj W4 [.slice xa X.length xc, .int .i64 xk] 28)
 replace HE := yz ((yy HE).kept hy)
 replace HC : Hid (ap _ w.heap.size L sa sc) := yz ((yy HC).kept hy)
 replace HB := yz (ak (yy HB) hy)
 replace HCX : Hid (ap _ W3.heap.size X xa xc) := yz ((yy HCX).kept hy)
 clear hy
 go_upto_region 7 with fail
 generalize W4.alloc (.cells #[.slice xa X.length xc, .int .i64 xk] 28) = W5 at *
 generalize W4.heap.size = xb at *
 have hpl := lE L
 obtain ⟨P, HPE⟩ : ∃ x, x = aC L := ⟨_, rfl⟩
 have cP := yz (oT L sa sc p W5 (by omega) hcm.1 hcm.2 (yy HC).stars (yy HE))
 have cPS := yz (fun (W : World) (hS : aA W sa L L.length) => oU L sa sc W (by omega) hS)
 rw [← HPE] at cP cPS hpl
 replace HPE := yz HPE
 go_wp2_with fail
 refine (yy cP).mono ?_
 rintro e W6 ⟨⟨pa, pc, rfl, hP⟩, hx⟩
 replace HE := yz ((yy HE).kept hx)
 replace HC : Hid (ap _ w.heap.size L sa sc) := yz ((yy HC).kept hx)
 replace HB := yz (ak (yy HB) hx)
 replace HCX : Hid (ap _ W3.heap.size X xa xc) := yz ((yy HCX).kept hx)
 replace HX := yz ((yy HX).kept hx)
 have HP := yz hP
 clear hx hP cP
 go_wp2_with fail
 refine (kQ da len2 dc W6 hl2 ((yy HR2).upI (yy HB).size (yy HB).block)).mono ?_
 rintro e W7 ⟨L2, sa2, sc2, a1, a2, a3, b1, b2, b3, rfl, hl3, hC2, hx⟩
 replace HE := yz ((yy HE).kept hx)
 replace HC : Hid (ap _ w.heap.size L sa sc) := yz ((yy HC).kept hx)
 replace HB := yz (ak (yy HB) hx)
 replace HCX : Hid (ap _ W3.heap.size X xa xc) := yz ((yy HCX).kept hx)
 replace HX := yz ((yy HX).kept hx)
 replace HP := yz ((yy HP).kept hx)
 have HC2 := yz hC2
 clear hx hC2
 have hy := be W7 (.cells #[.int .i64 a1, .int .i64 a2, .int .i64 a3] 33) (.cells #[.int .i64 b1, .int .i64 b2, .int .i64 b3] 33)
 have HA := yz ((bj W7 [.int .i64 a1, .int .i64 a2, .int .i64 a3] 33).alloc (.cells #[.int .i64 b1, .int .i64 b2, .int .i64 b3] 33))
 have HBv : Hid (Blk ((W7.alloc (.cells #[.int .i64 a1, .int .i64 a2, .int .i64 a3] 33)).alloc (.cells #[.int .i64 b1, .int .i64 b2, .int .i64 b3] 33)) (W7.heap.size + 1) [.int .i64 b1, .int .i64 b2, .int .i64 b3] 33) := yz (by have h := bj (W7.alloc (.cells #[.int .i64 a1, .int .i64 a2, .int .i64 a3] 33)) [.int .i64 b1, .int .i64 b2, .int .i64 b3] 33; simpa using h)
 replace HE := yz ((yy HE).kept hy)
 replace HC : Hid (ap _ w.heap.size L sa sc) := yz ((yy HC).kept hy)
 replace HB := yz (ak (yy HB) hy)
 replace HCX : Hid (ap _ W3.heap.size X xa xc) := yz ((yy HCX).kept hy)
 replace HX := yz ((yy HX).kept hy)
 replace HP := yz ((yy HP).kept hy)
 replace HC2 : Hid (ap _ W6.heap.size L2 sa2 sc2) := yz ((yy HC2).kept hy)
 clear hy
 go_upto_region 9 with fail
 generalize (W7.alloc (.cells #[.int .i64 a1, .int .i64 a2, .int .i64 a3] 33)).alloc (.cells #[.int .i64 b1, .int .i64 b2, .int .i64 b3] 33) = W8 at *
 generalize W7.heap.size = ab at *
 go_wp2_with fail
 refine (lX ca len cc W8 hl ((yy HR).upI (yy HB).size (yy HB).block)).mono ?_
 rintro e W9 ⟨L3, sa3, sc3, A, B, C, D, cone, rfl, hl4, hC3, hx⟩
 replace HE := yz ((yy HE).kept hx)
 replace HC : Hid (ap _ w.heap.size L sa sc) := yz ((yy HC).kept hx)
 replace HB := yz (ak (yy HB) hx)
 replace HCX : Hid (ap _ W3.heap.size X xa xc) := yz ((yy HCX).kept hx)
 replace HX := yz ((yy HX).kept hx)
 replace HP := yz ((yy HP).kept hx)
 replace HC2 : Hid (ap _ W6.heap.size L2 sa2 sc2) := yz ((yy HC2).kept hx)
 replace HA := yz ((yy HA).kept hx)
 replace HBv := yz ((yy HBv).kept hx)
 have HC3 := yz hC3
 clear hx hC3 HR
 have hy := am W9 (.cells #[.int .i64 A, .int .i64 B, .int .i64 C, .int .i64 D] 37)
 have HT := yz (bj W9 [.int .i64 A, .int .i64 B, .int .i64 C, .int .i64 D] 37)
 replace HE := yz ((yy HE).kept hy)
 replace HC : Hid (ap _ w.heap.size L sa sc) := yz ((yy HC).kept hy)
 replace HB := yz (ak (yy HB) hy)
 replace HCX : Hid (ap _ W3.heap.size X xa xc) := yz ((yy HCX).kept hy)
 replace HX := yz ((yy HX).kept hy)
 replace HP := yz ((yy HP).kept hy)
 replace HC2 : Hid (ap _ W6.heap.size L2 sa2 sc2) := yz ((yy HC2).kept hy)
 replace HA := yz ((yy HA).kept hy)
 replace HBv := yz ((yy HBv).kept hy)
 replace HC3 : Hid (ap _ W8.heap.size L3 sa3 sc3) := yz ((yy HC3).kept hy)
 clear hy
 go_upto_region 10 with fail
 generalize W9.alloc (.cells #[.int .i64 A, .int .i64 B, .int .i64 C, .int .i64 D] 37) = W10 at *
 generalize W9.heap.size = tb at *
 go_wp2_with fail
 refine (jV da len2 dc W10 hl2 ((yy HR2).upI (yy HB).size (yy HB).block)).mono ?_
 rintro e W11 ⟨L4, sa4, sc4, id, rfl, hl5, hC4, hx⟩
 replace HE := yz ((yy HE).kept hx)
 replace HC : Hid (ap _ w.heap.size L sa sc) := yz ((yy HC).kept hx)
 replace HB := yz (ak (yy HB) hx)
 replace HCX : Hid (ap _ W3.heap.size X xa xc) := yz ((yy HCX).kept hx)
 replace HX := yz ((yy HX).kept hx)
 replace HP := yz ((yy HP).kept hx)
 replace HC2 : Hid (ap _ W6.heap.size L2 sa2 sc2) := yz ((yy HC2).kept hx)
 replace HA := yz ((yy HA).kept hx)
 replace HBv := yz ((yy HBv).kept hx)
 replace HC3 : Hid (ap _ W8.heap.size L3 sa3 sc3) := yz ((yy HC3).kept hx)
 replace HT := yz ((yy HT).kept hx)
 have HC4 := yz hC4
 clear hx hC4
 go_upto_region 11 with fail
 have hcm2 := (yy HC2).capMax
 have hcq2 : sc2 ≤ 9223372036854775807 := by omega
 have hcm3 := (yy HC3).capMax
 have hcq3 : sc3 ≤ 9223372036854775807 := by omega
 have hcm4 := (yy HC4).capMax
 have hcq4 : sc4 ≤ 9223372036854775807 := by omega
 have cB := yz (fun (W : World) (hS : aA W sa L L.length) => dE L sa sc W (by omega) hS)
 rw [← yy HTX] at cB
 have cR1 := yz (fun (W : World) (hS : aA W sa L L.length) (hE : aU p W) => ct L sa sc p W (by omega) hcm.1 hcq hS hE)
 have cR2 := yz (fun (W : World) (hS : aA W sa L L.length) => bL L sa sc W (by omega) hS)
 obtain ⟨kb, HKB⟩ : ∃ x, x = aB L := ⟨_, rfl⟩
 rw [← HKB] at cR1 cR2
 replace HKB := yz HKB
 have cOS := yz (fun (W : World) (x y : Option Addr) (c d : Nat) (h1 : aA W x X X.length) (h2 : aA W y X X.length) => kj X x y c d W (by omega) h1 h2)
 have cOP := yz (fun (W : World) (x y : Option Addr) (c d : Nat) (h1 : Prs W x P P.length) (h2 : Prs W y P P.length) => gW P x y c d W (by omega) h1 h2)
 have cA1 := yz (fun (W : World) (hS : aA W sa2 L2 L2.length) (hE : aU p W) => jN L2 sa2 sc2 a1 a2 a3 b1 b2 b3 p W (by omega) hcm2.1 hcm2.2 hS hE)
 have cA2 := yz (fun (W : World) (hS : aA W sa2 L2 L2.length) => ou L2 sa2 sc2 a1 a2 a3 b1 b2 b3 W (by omega) hS)
 have hal := lh L2 (a1, a2, a3) (b1, b2, b3)
 obtain ⟨Q, HQE⟩ : ∃ x, x = aP L2 (a1, a2, a3) (b1, b2, b3) := ⟨_, rfl⟩
 rw [← HQE] at cA1 cA2 hal
 clear HQE
 have cOQ := yz (fun (W : World) (x y : Option Addr) (c d : Nat) (h1 : Prs W x Q Q.length) (h2 : Prs W y Q Q.length) => gW Q x y c d W (by omega) h1 h2)
 have cE1 := yz (fun (W : World) (hS : aA W sa3 L3 L3.length) (hE : aU p W) => qD L3 A B C D cone sa3 sc3 p W (by omega) hcm3.1 hcq3 hS hE)
 have cE2 := yz (fun (W : World) (hS : aA W sa3 L3 L3.length) => qE L3 A B C D cone sa3 sc3 W (by omega) hS)
 have hsl := sC L3 A B C D cone
 obtain ⟨N, HNE⟩ : ∃ x, x = dM L3 A B C D cone := ⟨_, rfl⟩
 rw [← HNE] at cE1 cE2 hsl
 clear HNE
 have cON := yz (fun (W : World) (x y : Option Addr) (c d : Nat) (h1 : ii W x N N.length) (h2 : ii W y N N.length) => nC N x y c d W (by omega) h1 h2)
 have cO1 := yz (fun (W : World) (hS : aA W sa4 L4 L4.length) (hE : aU p W) => ph L4 id sa4 sc4 p W (by omega) hcm4.1 hcq4 hS hE)
 have cO2 := yz (fun (W : World) (hS : aA W sa4 L4 L4.length) => du L4 id sa4 sc4 W (by omega) hS)
 obtain ⟨⟨v1, v2, v3⟩, HVE⟩ : ∃ x, x = bo L4 id := ⟨_, rfl⟩
 rw [← HVE] at cO1 cO2
 clear HVE
 unfold dP at cO1 cO2
 dsimp only at cO1 cO2
 have hqv := rC v1 v2 v3
 have hqs := fK tx
 have HKS : Hid (∀ w' : World, Below W11.heap.size W11 w' → w'.cell? ⟨xb, 0, none⟩ = some (.slice xa X.length xc) ∧ w'.cell? ⟨xb, 1, none⟩ = some (.int .i64 xk) ∧ w'.cell? ⟨ab, 0, none⟩ = some (.int .i64 a1) ∧ w'.cell? ⟨ab, 1, none⟩ = some (.int .i64 a2) ∧ w'.cell? ⟨ab, 2, none⟩ = some (.int .i64 a3) ∧ w'.cell? ⟨ab + 1, 0, none⟩ = some (.int .i64 b1) ∧ w'.cell? ⟨ab + 1, 1, none⟩ = some (.int .i64 b2) ∧ w'.cell? ⟨ab + 1, 2, none⟩ = some (.int .i64 b3) ∧ w'.cell? ⟨tb, 0, none⟩ = some (.int .i64 A) ∧ w'.cell? ⟨tb, 1, none⟩ = some (.int .i64 B) ∧ w'.cell? ⟨tb, 2, none⟩ = some (.int .i64 C) ∧ w'.cell? ⟨tb, 3, none⟩ = some (.int .i64 D)) := yz (fun w' h => ⟨((yy HX).kept h).cell 0 _ rfl, ((yy HX).kept h).cell 1 _ rfl, ((yy HA).kept h).cell 0 _ rfl, ((yy HA).kept h).cell 1 _ rfl, ((yy HA).kept h).cell 2 _ rfl, ((yy HBv).kept h).cell 0 _ rfl, ((yy HBv).kept h).cell 1 _ rfl, ((yy HBv).kept h).cell 2 _ rfl, ((yy HT).kept h).cell 0 _ rfl, ((yy HT).kept h).cell 1 _ rfl, ((yy HT).kept h).cell 2 _ rfl, ((yy HT).kept h).cell 3 _ rfl⟩)
 go_cut [124] (fun v wx => ∃ wv : World, wv = wx ∧ v = .bool false ∧ Hid (Below W11.heap.size W11 wx))
 case first => as_aux_lemma =>
  have HV : Hid (Below W11.heap.size W11 W11.drew) := yz (Below.refl W11.heap.size W11).drew
  refine wp_region_held_drew (S := (fun w' => w'.cell? ⟨xb, 0, none⟩ = some (.slice xa X.length xc) ∧ w'.cell? ⟨xb, 1, none⟩ = some (.int .i64 xk) ∧ w'.cell? ⟨ab, 0, none⟩ = some (.int .i64 a1) ∧ w'.cell? ⟨ab, 1, none⟩ = some (.int .i64 a2) ∧ w'.cell? ⟨ab, 2, none⟩ = some (.int .i64 a3) ∧ w'.cell? ⟨ab + 1, 0, none⟩ = some (.int .i64 b1) ∧ w'.cell? ⟨ab + 1, 1, none⟩ = some (.int .i64 b2) ∧ w'.cell? ⟨ab + 1, 2, none⟩ = some (.int .i64 b3) ∧ w'.cell? ⟨tb, 0, none⟩ = some (.int .i64 A) ∧ w'.cell? ⟨tb, 1, none⟩ = some (.int .i64 B) ∧ w'.cell? ⟨tb, 2, none⟩ = some (.int .i64 C) ∧ w'.cell? ⟨tb, 3, none⟩ = some (.int .i64 D))) (by kernel_rfl) (yy HKS W11 (Below.refl _ _)) (fun hHeld => ?_)
  refine wpAnyH_take (i := 0) (oi := ({ dst := some 57, op := Op.move (Operand.tmp 6), type := 9, pos := "laws.go:172", after := #[], guard := none } : Oper)) (v := ?_) rfl (by kernel_rfl) (by kernel_rfl) (by kernel_rfl) (fun _ _ _ h => h) (Or.inl ⟨by kernel_rfl, ?_⟩) (by assumption) ?_
  rotate_left
  ·intro W0 hSw; (try dsimp only at hSw); go_simp <;> with_reducible rfl
  try simp only [Act.put, ah, ai, aj]
  refine wpAnyH_take (i := 1) (oi := ({ dst := some 58, op := Op.move (Operand.tmp 5), type := 23, pos := "laws.go:172", after := #[], guard := none } : Oper)) (v := ?_) rfl (by kernel_rfl) (by kernel_rfl) (by kernel_rfl) (fun _ _ _ h => h) (Or.inl ⟨by kernel_rfl, ?_⟩) (by assumption) ?_
  rotate_left
  ·intro W0 hSw; (try dsimp only at hSw); go_simp <;> with_reducible rfl
  try simp only [Act.put, ah, ai, aj]
  refine wpAnyH_ready (rs := [2]) (by kernel_rfl) (by simp) ?_
  refine (AllReadyH.cons rfl (fun K hK => ?_) AllReadyH.nil)
  go_simp
  refine (yy cB W11.drew ((yy HC).kept (yy HV)).stars).mono ?_
  rintro e V1 ⟨rfl, hx⟩
  replace HV := yz (ak (yy HV) hx)
  clear hx 
  refine hK.out _ _ ?_ (fun hHeld1 => ?_)
  ·exact yy HKS _ (yy HV)
  clear hK K
  refine wpAnyH_take (i := 3) (oi := ({ dst := some 60, op := Op.binOp BinOp.neq 9 (Operand.tmp 57) (Operand.tmp 59) 9, type := 4, pos := "laws.go:172", after := #[{ on := 0, ground := Ground.data }, { on := 2, ground := Ground.data }], guard := none } : Oper)) (v := (.bool false)) rfl (by kernel_rfl) (by kernel_rfl) (by kernel_rfl) (fun _ _ _ h => h) (Or.inl ⟨by kernel_rfl, ?_⟩) (by assumption) ?_
  ·intro W0 hSw; (try dsimp only at hSw); go_simp <;> simp [hqs]
  try simp only [Act.put, ah, ai, aj]
  refine wpAnyH_take (i := 4) (oi := ({ dst := some 61, op := Op.move (Operand.tmp 60), type := 4, pos := "laws.go:172", after := #[{ on := 3, ground := Ground.data }, { on := 2, ground := Ground.chain }], guard := none } : Oper)) (v := ?_) rfl (by kernel_rfl) (by kernel_rfl) (by kernel_rfl) (fun _ _ _ h => h) (Or.inl ⟨by kernel_rfl, ?_⟩) (by assumption) ?_
  rotate_left
  ·intro W0 hSw; (try dsimp only at hSw); go_simp <;> with_reducible rfl
  try simp only [Act.put, ah, ai, aj]
  refine wpAnyH_take (i := 5) (oi := ({ dst := some 62, op := Op.move (Operand.tmp 5), type := 23, pos := "laws.go:172", after := #[{ on := 4, ground := Ground.guard }], guard := some (4, false) } : Oper)) (v := ?_) rfl (by kernel_rfl) (by kernel_rfl) (by kernel_rfl) (fun _ _ _ h => h) (Or.inl ⟨by kernel_rfl, ?_⟩) (by assumption) ?_
  rotate_left
  ·intro W0 hSw; (try dsimp only at hSw); go_simp <;> with_reducible rfl
  try simp only [Act.put, ah, ai, aj]
  refine wpAnyH_take (i := 7) (oi := ({ dst := some 64, op := Op.move (Operand.tmp 5), type := 23, pos := "laws.go:172", after := #[{ on := 4, ground := Ground.guard }], guard := some (4, false) } : Oper)) (v := ?_) rfl (by kernel_rfl) (by kernel_rfl) (by kernel_rfl) (fun _ _ _ h => h) (Or.inl ⟨by kernel_rfl, ?_⟩) (by assumption) ?_
  rotate_left
  ·intro W0 hSw; (try dsimp only at hSw); go_simp <;> with_reducible rfl
  try simp only [Act.put, ah, ai, aj]
  refine wpAnyH_ready (rs := [6]) (by kernel_rfl) (by simp) ?_
  refine (AllReadyH.cons rfl (fun K hK => ?_) AllReadyH.nil)
  go_simp
  refine (yy cR1 V1 ((yy HC).kept (yy HV)).stars ((yy HE).kept (yy HV))).mono ?_
  rintro e V2 ⟨rfl, hx⟩
  replace HV := yz (ak (yy HV) hx)
  clear hx 
  refine hK.out _ _ ?_ (fun hHeld2 => ?_)
  ·exact yy HKS _ (yy HV)
  clear hK K
  refine wpAnyH_ready (rs := [8]) (by kernel_rfl) (by simp) ?_
  refine (AllReadyH.cons rfl (fun K hK => ?_) AllReadyH.nil)
  go_simp
  refine (yy cR2 V2 ((yy HC).kept (yy HV)).stars).mono ?_
  rintro e V3 ⟨rfl, hx⟩
  replace HV := yz (ak (yy HV) hx)
  clear hx 
  refine hK.out _ _ ?_ (fun hHeld3 => ?_)
  ·exact yy HKS _ (yy HV)
  clear hK K
  refine wpAnyH_take (i := 9) (oi := ({ dst := some 66, op := Op.binOp BinOp.neq 4 (Operand.tmp 63) (Operand.tmp 65) 4, type := 4, pos := "laws.go:172", after := #[{ on := 6, ground := Ground.data }, { on := 8, ground := Ground.data }, { on := 4, ground := Ground.guard }], guard := some (4, false) } : Oper)) (v := (.bool false)) rfl (by kernel_rfl) (by kernel_rfl) (by kernel_rfl) (fun _ _ _ h => h) (Or.inl ⟨by kernel_rfl, ?_⟩) (by assumption) ?_
  ·intro W0 hSw; (try dsimp only at hSw); go_simp <;> simp
  try simp only [Act.put, ah, ai, aj]
  refine wpAnyH_take (i := 10) (oi := ({ dst := some 67, op := Op.pick (Operand.tmp 61) (Operand.const (Value.bool true)) (Operand.tmp 66), type := 4, pos := "laws.go:172", after := #[{ on := 4, ground := Ground.data }, { on := 9, ground := Ground.data }], guard := none } : Oper)) (v := (.bool false)) rfl (by kernel_rfl) (by kernel_rfl) (by kernel_rfl) (fun _ _ _ h => h) (Or.inl ⟨by kernel_rfl, ?_⟩) (by assumption) ?_
  ·intro W0 hSw; (try dsimp only at hSw); go_simp <;> simp
  try simp only [Act.put, ah, ai, aj]
  refine wpAnyH_take (i := 11) (oi := ({ dst := some 68, op := Op.move (Operand.tmp 67), type := 4, pos := "laws.go:172", after := #[{ on := 10, ground := Ground.data }, { on := 8, ground := Ground.chain }], guard := none } : Oper)) (v := ?_) rfl (by kernel_rfl) (by kernel_rfl) (by kernel_rfl) (fun _ _ _ h => h) (Or.inl ⟨by kernel_rfl, ?_⟩) (by assumption) ?_
  rotate_left
  ·intro W0 hSw; (try dsimp only at hSw); go_simp <;> with_reducible rfl
  try simp only [Act.put, ah, ai, aj]
  refine wpAnyH_take (i := 12) (oi := ({ dst := some 69, op := Op.fieldAddr 28 (Operand.tmp 8) 1, type := 0, pos := "laws.go:172", after := #[{ on := 11, ground := Ground.guard }], guard := some (11, false) } : Oper)) (v := ?_) rfl (by kernel_rfl) (by kernel_rfl) (by kernel_rfl) (fun _ _ _ h => h) (Or.inl ⟨by kernel_rfl, ?_⟩) (by assumption) ?_
  rotate_left
  ·intro W0 hSw; (try dsimp only at hSw); go_simp <;> with_reducible rfl
  try simp only [Act.put, ah, ai, aj]
  refine wpAnyH_take (i := 13) (oi := ({ dst := some 70, op := Op.load 2 (Operand.tmp 69), type := 2, pos := "laws.go:172", after := #[{ on := 12, ground := Ground.data }, { on := 11, ground := Ground.guard }], guard := some (11, false) } : Oper)) (v := ?_) rfl (by kernel_rfl) (by kernel_rfl) (by kernel_rfl) (fun _ _ _ h => h) (Or.inl ⟨by kernel_rfl, ?_⟩) (by assumption) ?_
  rotate_left
  ·intro W0 hSw; (try dsimp only at hSw); go_simp <;> with_reducible rfl
  try simp only [Act.put, ah, ai, aj]
  refine wpAnyH_take (i := 14) (oi := ({ dst := some 71, op := Op.move (Operand.tmp 7), type := 9, pos := "laws.go:172", after := #[{ on := 11, ground := Ground.guard }], guard := some (11, false) } : Oper)) (v := ?_) rfl (by kernel_rfl) (by kernel_rfl) (by kernel_rfl) (fun _ _ _ h => h) (Or.inl ⟨by kernel_rfl, ?_⟩) (by assumption) ?_
  rotate_left
  ·intro W0 hSw; (try dsimp only at hSw); go_simp <;> with_reducible rfl
  try simp only [Act.put, ah, ai, aj]
  refine wpAnyH_ready (rs := [15]) (by kernel_rfl) (by simp) ?_
  refine (AllReadyH.cons rfl (fun K hK => ?_) AllReadyH.nil)
  go_simp
  refine (yy cXS V3).mono ?_
  rintro e V4 ⟨⟨y1, d1, rfl, hq⟩, hx⟩
  replace HV := yz (ak (yy HV) hx)
  have hf1 := qh y1 X.length d1 xk
  clear hx hq
  refine hK.out _ _ ?_ (fun hHeld4 => ?_)
  ·exact yy HKS _ (yy HV)
  clear hK K
  refine wpAnyH_take (i := 16) (oi := ({ dst := some 73, op := Op.field 28 (Operand.tmp 72) 1, type := 2, pos := "laws.go:172", after := #[{ on := 15, ground := Ground.data }, { on := 11, ground := Ground.guard }], guard := some (11, false) } : Oper)) (v := ?_) rfl (by kernel_rfl) (by kernel_rfl) (by kernel_rfl) (fun _ _ _ h => h) (Or.inl ⟨by kernel_rfl, ?_⟩) (by assumption) ?_
  rotate_left
  ·intro W0 hSw; (try dsimp only at hSw); go_simp <;> with_reducible rfl
  try simp only [Act.put, ah, ai, aj]
  refine wpAnyH_take (i := 17) (oi := ({ dst := some 74, op := Op.binOp BinOp.neq 2 (Operand.tmp 70) (Operand.tmp 73) 2, type := 4, pos := "laws.go:172", after := #[{ on := 13, ground := Ground.data }, { on := 16, ground := Ground.data }, { on := 11, ground := Ground.guard }], guard := some (11, false) } : Oper)) (v := (.bool false)) rfl (by kernel_rfl) (by kernel_rfl) (by kernel_rfl) (fun _ _ _ h => h) (Or.inl ⟨by kernel_rfl, ?_⟩) (by assumption) ?_
  ·intro W0 hSw; (try dsimp only at hSw); go_simp <;> simp
  try simp only [Act.put, ah, ai, aj]
  refine wpAnyH_take (i := 18) (oi := ({ dst := some 75, op := Op.pick (Operand.tmp 68) (Operand.const (Value.bool true)) (Operand.tmp 74), type := 4, pos := "laws.go:172", after := #[{ on := 11, ground := Ground.data }, { on := 17, ground := Ground.data }], guard := none } : Oper)) (v := (.bool false)) rfl (by kernel_rfl) (by kernel_rfl) (by kernel_rfl) (fun _ _ _ h => h) (Or.inl ⟨by kernel_rfl, ?_⟩) (by assumption) ?_
  ·intro W0 hSw; (try dsimp only at hSw); go_simp <;> simp
  try simp only [Act.put, ah, ai, aj]
  refine wpAnyH_take (i := 19) (oi := ({ dst := some 76, op := Op.move (Operand.tmp 75), type := 4, pos := "laws.go:172", after := #[{ on := 18, ground := Ground.data }, { on := 15, ground := Ground.chain }], guard := none } : Oper)) (v := ?_) rfl (by kernel_rfl) (by kernel_rfl) (by kernel_rfl) (fun _ _ _ h => h) (Or.inl ⟨by kernel_rfl, ?_⟩) (by assumption) ?_
  rotate_left
  ·intro W0 hSw; (try dsimp only at hSw); go_simp <;> with_reducible rfl
  try simp only [Act.put, ah, ai, aj]
  refine wpAnyH_take (i := 20) (oi := ({ dst := some 77, op := Op.fieldAddr 28 (Operand.tmp 8) 0, type := 0, pos := "laws.go:172", after := #[{ on := 19, ground := Ground.guard }], guard := some (19, false) } : Oper)) (v := ?_) rfl (by kernel_rfl) (by kernel_rfl) (by kernel_rfl) (fun _ _ _ h => h) (Or.inl ⟨by kernel_rfl, ?_⟩) (by assumption) ?_
  rotate_left
  ·intro W0 hSw; (try dsimp only at hSw); go_simp <;> with_reducible rfl
  try simp only [Act.put, ah, ai, aj]
  refine wpAnyH_take (i := 21) (oi := ({ dst := some 78, op := Op.load 23 (Operand.tmp 77), type := 23, pos := "laws.go:172", after := #[{ on := 20, ground := Ground.data }, { on := 19, ground := Ground.guard }], guard := some (19, false) } : Oper)) (v := ?_) rfl (by kernel_rfl) (by kernel_rfl) (by kernel_rfl) (fun _ _ _ h => h) (Or.inl ⟨by kernel_rfl, ?_⟩) (by assumption) ?_
  rotate_left
  ·intro W0 hSw; (try dsimp only at hSw); go_simp <;> with_reducible rfl
  try simp only [Act.put, ah, ai, aj]
  refine wpAnyH_take (i := 22) (oi := ({ dst := some 79, op := Op.move (Operand.tmp 7), type := 9, pos := "laws.go:172", after := #[{ on := 19, ground := Ground.guard }], guard := some (19, false) } : Oper)) (v := ?_) rfl (by kernel_rfl) (by kernel_rfl) (by kernel_rfl) (fun _ _ _ h => h) (Or.inl ⟨by kernel_rfl, ?_⟩) (by assumption) ?_
  rotate_left
  ·intro W0 hSw; (try dsimp only at hSw); go_simp <;> with_reducible rfl
  try simp only [Act.put, ah, ai, aj]
  refine wpAnyH_ready (rs := [23]) (by kernel_rfl) (by simp) ?_
  refine (AllReadyH.cons rfl (fun K hK => ?_) AllReadyH.nil)
  go_simp
  refine (yy cXS V4).mono ?_
  rintro e V5 ⟨⟨y2, d2, rfl, hq⟩, hx⟩
  replace HV := yz (ak (yy HV) hx)
  have HA3 := yz hq
  have hf0 := lr y2 X.length d2 xk
  clear hx hq
  refine hK.out _ _ ?_ (fun hHeld5 => ?_)
  ·exact yy HKS _ (yy HV)
  clear hK K
  refine wpAnyH_take (i := 24) (oi := ({ dst := some 81, op := Op.field 28 (Operand.tmp 80) 0, type := 23, pos := "laws.go:172", after := #[{ on := 23, ground := Ground.data }, { on := 19, ground := Ground.guard }], guard := some (19, false) } : Oper)) (v := ?_) rfl (by kernel_rfl) (by kernel_rfl) (by kernel_rfl) (fun _ _ _ h => h) (Or.inl ⟨by kernel_rfl, ?_⟩) (by assumption) ?_
  rotate_left
  ·intro W0 hSw; (try dsimp only at hSw); go_simp <;> with_reducible rfl
  try simp only [Act.put, ah, ai, aj]
  refine wpAnyH_ready (rs := [25]) (by kernel_rfl) (by simp) ?_
  refine (AllReadyH.cons rfl (fun K hK => ?_) AllReadyH.nil)
  go_simp
  refine (yy cOS V5 xa y2 xc d2 ((yy HCX).kept (yy HV)).stars (yy HA3).stars).mono ?_
  rintro e V6 ⟨rfl, hx⟩
  replace HV := yz (ak (yy HV) hx)
  clear hx HA3
  refine hK.out _ _ ?_ (fun hHeld6 => ?_)
  ·exact yy HKS _ (yy HV)
  clear hK K
  refine wpAnyH_take (i := 26) (oi := ({ dst := some 83, op := Op.unOp UnOp.not 4 (Operand.tmp 82), type := 4, pos := "laws.go:172", after := #[{ on := 25, ground := Ground.data }, { on := 19, ground := Ground.guard }], guard := some (19, false) } : Oper)) (v := (.bool false)) rfl (by kernel_rfl) (by kernel_rfl) (by kernel_rfl) (fun _ _ _ h => h) (Or.inl ⟨by kernel_rfl, ?_⟩) (by assumption) ?_
  ·intro W0 hSw; (try dsimp only at hSw); go_simp <;> simp
  try simp only [Act.put, ah, ai, aj]
  refine wpAnyH_take (i := 27) (oi := ({ dst := some 84, op := Op.pick (Operand.tmp 76) (Operand.const (Value.bool true)) (Operand.tmp 83), type := 4, pos := "laws.go:172", after := #[{ on := 19, ground := Ground.data }, { on := 26, ground := Ground.data }], guard := none } : Oper)) (v := (.bool false)) rfl (by kernel_rfl) (by kernel_rfl) (by kernel_rfl) (fun _ _ _ h => h) (Or.inl ⟨by kernel_rfl, ?_⟩) (by assumption) ?_
  ·intro W0 hSw; (try dsimp only at hSw); go_simp <;> simp
  try simp only [Act.put, ah, ai, aj]
  refine wpAnyH_take (i := 28) (oi := ({ dst := some 85, op := Op.move (Operand.tmp 84), type := 4, pos := "laws.go:172", after := #[{ on := 27, ground := Ground.data }, { on := 25, ground := Ground.chain }], guard := none } : Oper)) (v := ?_) rfl (by kernel_rfl) (by kernel_rfl) (by kernel_rfl) (fun _ _ _ h => h) (Or.inl ⟨by kernel_rfl, ?_⟩) (by assumption) ?_
  rotate_left
  ·intro W0 hSw; (try dsimp only at hSw); go_simp <;> with_reducible rfl
  try simp only [Act.put, ah, ai, aj]
  refine wpAnyH_take (i := 29) (oi := ({ dst := some 86, op := Op.move (Operand.tmp 9), type := 30, pos := "laws.go:172", after := #[{ on := 28, ground := Ground.guard }], guard := some (28, false) } : Oper)) (v := ?_) rfl (by kernel_rfl) (by kernel_rfl) (by kernel_rfl) (fun _ _ _ h => h) (Or.inl ⟨by kernel_rfl, ?_⟩) (by assumption) ?_
  rotate_left
  ·intro W0 hSw; (try dsimp only at hSw); go_simp <;> with_reducible rfl
  try simp only [Act.put, ah, ai, aj]
  refine wpAnyH_take (i := 30) (oi := ({ dst := some 87, op := Op.move (Operand.tmp 5), type := 23, pos := "laws.go:172", after := #[{ on := 28, ground := Ground.guard }], guard := some (28, false) } : Oper)) (v := ?_) rfl (by kernel_rfl) (by kernel_rfl) (by kernel_rfl) (fun _ _ _ h => h) (Or.inl ⟨by kernel_rfl, ?_⟩) (by assumption) ?_
  rotate_left
  ·intro W0 hSw; (try dsimp only at hSw); go_simp <;> with_reducible rfl
  try simp only [Act.put, ah, ai, aj]
  refine wpAnyH_ready (rs := [31]) (by kernel_rfl) (by simp) ?_
  refine (AllReadyH.cons rfl (fun K hK => ?_) AllReadyH.nil)
  go_simp
  refine (yy cPS V6 ((yy HC).kept (yy HV)).stars).mono ?_
  rintro e V7 ⟨⟨y3, d3, rfl, hq⟩, hx⟩
  replace HV := yz (ak (yy HV) hx)
  have HA3 := yz hq
  clear hx hq
  refine hK.out _ _ ?_ (fun hHeld7 => ?_)
  ·exact yy HKS _ (yy HV)
  clear hK K
  refine wpAnyH_ready (rs := [32]) (by kernel_rfl) (by simp) ?_
  refine (AllReadyH.cons rfl (fun K hK => ?_) AllReadyH.nil)
  go_simp
  refine (yy cOP V7 pa y3 pc d3 ((yy HP).kept (yy HV)) (yy HA3)).mono ?_
  rintro e V8 ⟨rfl, hx⟩
  replace HV := yz (ak (yy HV) hx)
  clear hx HA3
  refine hK.out _ _ ?_ (fun hHeld8 => ?_)
  ·exact yy HKS _ (yy HV)
  clear hK K
  refine wpAnyH_take (i := 33) (oi := ({ dst := some 90, op := Op.unOp UnOp.not 4 (Operand.tmp 89), type := 4, pos := "laws.go:172", after := #[{ on := 32, ground := Ground.data }, { on := 28, ground := Ground.guard }], guard := some (28, false) } : Oper)) (v := (.bool false)) rfl (by kernel_rfl) (by kernel_rfl) (by kernel_rfl) (fun _ _ _ h => h) (Or.inl ⟨by kernel_rfl, ?_⟩) (by assumption) ?_
  ·intro W0 hSw; (try dsimp only at hSw); go_simp <;> simp
  try simp only [Act.put, ah, ai, aj]
  refine wpAnyH_take (i := 34) (oi := ({ dst := some 91, op := Op.pick (Operand.tmp 85) (Operand.const (Value.bool true)) (Operand.tmp 90), type := 4, pos := "laws.go:172", after := #[{ on := 28, ground := Ground.data }, { on := 33, ground := Ground.data }], guard := none } : Oper)) (v := (.bool false)) rfl (by kernel_rfl) (by kernel_rfl) (by kernel_rfl) (fun _ _ _ h => h) (Or.inl ⟨by kernel_rfl, ?_⟩) (by assumption) ?_
  ·intro W0 hSw; (try dsimp only at hSw); go_simp <;> simp
  try simp only [Act.put, ah, ai, aj]
  refine wpAnyH_take (i := 35) (oi := ({ dst := some 92, op := Op.move (Operand.tmp 91), type := 4, pos := "laws.go:172", after := #[{ on := 34, ground := Ground.data }, { on := 32, ground := Ground.chain }], guard := none } : Oper)) (v := ?_) rfl (by kernel_rfl) (by kernel_rfl) (by kernel_rfl) (fun _ _ _ h => h) (Or.inl ⟨by kernel_rfl, ?_⟩) (by assumption) ?_
  rotate_left
  ·intro W0 hSw; (try dsimp only at hSw); go_simp <;> with_reducible rfl
  try simp only [Act.put, ah, ai, aj]
  refine wpAnyH_take (i := 36) (oi := ({ dst := some 93, op := Op.move (Operand.tmp 10), type := 23, pos := "laws.go:172", after := #[{ on := 35, ground := Ground.guard }], guard := some (35, false) } : Oper)) (v := ?_) rfl (by kernel_rfl) (by kernel_rfl) (by kernel_rfl) (fun _ _ _ h => h) (Or.inl ⟨by kernel_rfl, ?_⟩) (by assumption) ?_
  rotate_left
  ·intro W0 hSw; (try dsimp only at hSw); go_simp <;> with_reducible rfl
  try simp only [Act.put, ah, ai, aj]
  refine wpAnyH_take (i := 37) (oi := ({ dst := some 94, op := Op.load 33 (Operand.tmp 11), type := 33, pos := "laws.go:172", after := #[{ on := 35, ground := Ground.guard }], guard := some (35, false) } : Oper)) (v := ?_) rfl (by kernel_rfl) (by kernel_rfl) (by kernel_rfl) (fun _ _ _ h => h) (Or.inl ⟨by kernel_rfl, ?_⟩) (by assumption) ?_
  rotate_left
  ·intro W0 hSw; (try dsimp only at hSw); go_simp <;> with_reducible rfl
  try simp only [Act.put, ah, ai, aj]
  refine wpAnyH_take (i := 38) (oi := ({ dst := some 95, op := Op.load 33 (Operand.tmp 12), type := 33, pos := "laws.go:172", after := #[{ on := 35, ground := Ground.guard }], guard := some (35, false) } : Oper)) (v := ?_) rfl (by kernel_rfl) (by kernel_rfl) (by kernel_rfl) (fun _ _ _ h => h) (Or.inl ⟨by kernel_rfl, ?_⟩) (by assumption) ?_
  rotate_left
  ·intro W0 hSw; (try dsimp only at hSw); go_simp <;> with_reducible rfl
  try simp only [Act.put, ah, ai, aj]
  refine wpAnyH_take (i := 40) (oi := ({ dst := some 97, op := Op.move (Operand.tmp 10), type := 23, pos := "laws.go:172", after := #[{ on := 35, ground := Ground.guard }], guard := some (35, false) } : Oper)) (v := ?_) rfl (by kernel_rfl) (by kernel_rfl) (by kernel_rfl) (fun _ _ _ h => h) (Or.inl ⟨by kernel_rfl, ?_⟩) (by assumption) ?_
  rotate_left
  ·intro W0 hSw; (try dsimp only at hSw); go_simp <;> with_reducible rfl
  try simp only [Act.put, ah, ai, aj]
  refine wpAnyH_take (i := 41) (oi := ({ dst := some 98, op := Op.load 33 (Operand.tmp 11), type := 33, pos := "laws.go:172", after := #[{ on := 35, ground := Ground.guard }], guard := some (35, false) } : Oper)) (v := ?_) rfl (by kernel_rfl) (by kernel_rfl) (by kernel_rfl) (fun _ _ _ h => h) (Or.inl ⟨by kernel_rfl, ?_⟩) (by assumption) ?_
  rotate_left
  ·intro W0 hSw; (try dsimp only at hSw); go_simp <;> with_reducible rfl
  try simp only [Act.put, ah, ai, aj]
  refine wpAnyH_take (i := 42) (oi := ({ dst := some 99, op := Op.load 33 (Operand.tmp 12), type := 33, pos := "laws.go:172", after := #[{ on := 35, ground := Ground.guard }], guard := some (35, false) } : Oper)) (v := ?_) rfl (by kernel_rfl) (by kernel_rfl) (by kernel_rfl) (fun _ _ _ h => h) (Or.inl ⟨by kernel_rfl, ?_⟩) (by assumption) ?_
  rotate_left
  ·intro W0 hSw; (try dsimp only at hSw); go_simp <;> with_reducible rfl
  try simp only [Act.put, ah, ai, aj]
  refine wpAnyH_ready (rs := [39]) (by kernel_rfl) (by simp) ?_
  refine (AllReadyH.cons rfl (fun K hK => ?_) AllReadyH.nil)
  go_simp
  refine (yy cA1 V8 ((yy HC2).kept (yy HV)).stars ((yy HE).kept (yy HV))).mono ?_
  rintro e V9 ⟨⟨y4, d4, rfl, hq⟩, hx⟩
  replace HV := yz (ak (yy HV) hx)
  have HA3 := yz hq
  clear hx hq
  refine hK.out _ _ ?_ (fun hHeld9 => ?_)
  ·exact yy HKS _ (yy HV)
  clear hK K
  refine wpAnyH_ready (rs := [43]) (by kernel_rfl) (by simp) ?_
  refine (AllReadyH.cons rfl (fun K hK => ?_) AllReadyH.nil)
  go_simp
  refine (yy cA2 V9 ((yy HC2).kept (yy HV)).stars).mono ?_
  rintro e V10 ⟨⟨y5, d5, rfl, hq⟩, hx⟩
  replace HV := yz (ak (yy HV) hx)
  replace HA3 := yz ((yy HA3).kept hx)
  have HA4 := yz hq
  clear hx hq
  refine hK.out _ _ ?_ (fun hHeld10 => ?_)
  ·exact yy HKS _ (yy HV)
  clear hK K
  refine wpAnyH_ready (rs := [44]) (by kernel_rfl) (by simp) ?_
  refine (AllReadyH.cons rfl (fun K hK => ?_) AllReadyH.nil)
  go_simp
  refine (yy cOQ V10 y4 y5 d4 d5 (yy HA3) (yy HA4)).mono ?_
  rintro e V11 ⟨rfl, hx⟩
  replace HV := yz (ak (yy HV) hx)
  clear hx HA3 HA4
  refine hK.out _ _ ?_ (fun hHeld11 => ?_)
  ·exact yy HKS _ (yy HV)
  clear hK K
  refine wpAnyH_take (i := 45) (oi := ({ dst := some 102, op := Op.unOp UnOp.not 4 (Operand.tmp 101), type := 4, pos := "laws.go:172", after := #[{ on := 44, ground := Ground.data }, { on := 35, ground := Ground.guard }], guard := some (35, false) } : Oper)) (v := (.bool false)) rfl (by kernel_rfl) (by kernel_rfl) (by kernel_rfl) (fun _ _ _ h => h) (Or.inl ⟨by kernel_rfl, ?_⟩) (by assumption) ?_
  ·intro W0 hSw; (try dsimp only at hSw); go_simp <;> simp
  try simp only [Act.put, ah, ai, aj]
  refine wpAnyH_take (i := 46) (oi := ({ dst := some 103, op := Op.pick (Operand.tmp 92) (Operand.const (Value.bool true)) (Operand.tmp 102), type := 4, pos := "laws.go:172", after := #[{ on := 35, ground := Ground.data }, { on := 45, ground := Ground.data }], guard := none } : Oper)) (v := (.bool false)) rfl (by kernel_rfl) (by kernel_rfl) (by kernel_rfl) (fun _ _ _ h => h) (Or.inl ⟨by kernel_rfl, ?_⟩) (by assumption) ?_
  ·intro W0 hSw; (try dsimp only at hSw); go_simp <;> simp
  try simp only [Act.put, ah, ai, aj]
  refine wpAnyH_take (i := 47) (oi := ({ dst := some 104, op := Op.move (Operand.tmp 103), type := 4, pos := "laws.go:172", after := #[{ on := 46, ground := Ground.data }, { on := 44, ground := Ground.chain }], guard := none } : Oper)) (v := ?_) rfl (by kernel_rfl) (by kernel_rfl) (by kernel_rfl) (fun _ _ _ h => h) (Or.inl ⟨by kernel_rfl, ?_⟩) (by assumption) ?_
  rotate_left
  ·intro W0 hSw; (try dsimp only at hSw); go_simp <;> with_reducible rfl
  try simp only [Act.put, ah, ai, aj]
  refine wpAnyH_take (i := 48) (oi := ({ dst := some 105, op := Op.move (Operand.tmp 13), type := 23, pos := "laws.go:172", after := #[{ on := 47, ground := Ground.guard }], guard := some (47, false) } : Oper)) (v := ?_) rfl (by kernel_rfl) (by kernel_rfl) (by kernel_rfl) (fun _ _ _ h => h) (Or.inl ⟨by kernel_rfl, ?_⟩) (by assumption) ?_
  rotate_left
  ·intro W0 hSw; (try dsimp only at hSw); go_simp <;> with_reducible rfl
  try simp only [Act.put, ah, ai, aj]
  refine wpAnyH_take (i := 49) (oi := ({ dst := some 106, op := Op.load 37 (Operand.tmp 14), type := 37, pos := "laws.go:172", after := #[{ on := 47, ground := Ground.guard }], guard := some (47, false) } : Oper)) (v := ?_) rfl (by kernel_rfl) (by kernel_rfl) (by kernel_rfl) (fun _ _ _ h => h) (Or.inl ⟨by kernel_rfl, ?_⟩) (by assumption) ?_
  rotate_left
  ·intro W0 hSw; (try dsimp only at hSw); go_simp <;> with_reducible rfl
  try simp only [Act.put, ah, ai, aj]
  refine wpAnyH_take (i := 50) (oi := ({ dst := some 107, op := Op.move (Operand.tmp 15), type := 2, pos := "laws.go:172", after := #[{ on := 47, ground := Ground.guard }], guard := some (47, false) } : Oper)) (v := ?_) rfl (by kernel_rfl) (by kernel_rfl) (by kernel_rfl) (fun _ _ _ h => h) (Or.inl ⟨by kernel_rfl, ?_⟩) (by assumption) ?_
  rotate_left
  ·intro W0 hSw; (try dsimp only at hSw); go_simp <;> with_reducible rfl
  try simp only [Act.put, ah, ai, aj]
  refine wpAnyH_take (i := 52) (oi := ({ dst := some 109, op := Op.move (Operand.tmp 13), type := 23, pos := "laws.go:172", after := #[{ on := 47, ground := Ground.guard }], guard := some (47, false) } : Oper)) (v := ?_) rfl (by kernel_rfl) (by kernel_rfl) (by kernel_rfl) (fun _ _ _ h => h) (Or.inl ⟨by kernel_rfl, ?_⟩) (by assumption) ?_
  rotate_left
  ·intro W0 hSw; (try dsimp only at hSw); go_simp <;> with_reducible rfl
  try simp only [Act.put, ah, ai, aj]
  refine wpAnyH_take (i := 53) (oi := ({ dst := some 110, op := Op.load 37 (Operand.tmp 14), type := 37, pos := "laws.go:172", after := #[{ on := 47, ground := Ground.guard }], guard := some (47, false) } : Oper)) (v := ?_) rfl (by kernel_rfl) (by kernel_rfl) (by kernel_rfl) (fun _ _ _ h => h) (Or.inl ⟨by kernel_rfl, ?_⟩) (by assumption) ?_
  rotate_left
  ·intro W0 hSw; (try dsimp only at hSw); go_simp <;> with_reducible rfl
  try simp only [Act.put, ah, ai, aj]
  refine wpAnyH_take (i := 54) (oi := ({ dst := some 111, op := Op.move (Operand.tmp 15), type := 2, pos := "laws.go:172", after := #[{ on := 47, ground := Ground.guard }], guard := some (47, false) } : Oper)) (v := ?_) rfl (by kernel_rfl) (by kernel_rfl) (by kernel_rfl) (fun _ _ _ h => h) (Or.inl ⟨by kernel_rfl, ?_⟩) (by assumption) ?_
  rotate_left
  ·intro W0 hSw; (try dsimp only at hSw); go_simp <;> with_reducible rfl
  try simp only [Act.put, ah, ai, aj]
  refine wpAnyH_ready (rs := [51]) (by kernel_rfl) (by simp) ?_
  refine (AllReadyH.cons rfl (fun K hK => ?_) AllReadyH.nil)
  go_simp
  refine (yy cE1 V11 ((yy HC3).kept (yy HV)).stars ((yy HE).kept (yy HV))).mono ?_
  rintro e V12 ⟨⟨y6, d6, rfl, hq⟩, hx⟩
  replace HV := yz (ak (yy HV) hx)
  have HA3 := yz hq
  clear hx hq
  refine hK.out _ _ ?_ (fun hHeld12 => ?_)
  ·exact yy HKS _ (yy HV)
  clear hK K
  refine wpAnyH_ready (rs := [55]) (by kernel_rfl) (by simp) ?_
  refine (AllReadyH.cons rfl (fun K hK => ?_) AllReadyH.nil)
  go_simp
  refine (yy cE2 V12 ((yy HC3).kept (yy HV)).stars).mono ?_
  rintro e V13 ⟨⟨y7, d7, rfl, hq⟩, hx⟩
  replace HV := yz (ak (yy HV) hx)
  replace HA3 := yz ((yy HA3).kept hx)
  have HA4 := yz hq
  clear hx hq
  refine hK.out _ _ ?_ (fun hHeld13 => ?_)
  ·exact yy HKS _ (yy HV)
  clear hK K
  refine wpAnyH_ready (rs := [56]) (by kernel_rfl) (by simp) ?_
  refine (AllReadyH.cons rfl (fun K hK => ?_) AllReadyH.nil)
  go_simp
  refine (yy cON V13 y6 y7 d6 d7 (yy HA3) (yy HA4)).mono ?_
  rintro e V14 ⟨rfl, hx⟩
  replace HV := yz (ak (yy HV) hx)
  clear hx HA3 HA4
  refine hK.out _ _ ?_ (fun hHeld14 => ?_)
  ·exact yy HKS _ (yy HV)
  clear hK K
  refine wpAnyH_take (i := 57) (oi := ({ dst := some 114, op := Op.unOp UnOp.not 4 (Operand.tmp 113), type := 4, pos := "laws.go:172", after := #[{ on := 56, ground := Ground.data }, { on := 47, ground := Ground.guard }], guard := some (47, false) } : Oper)) (v := (.bool false)) rfl (by kernel_rfl) (by kernel_rfl) (by kernel_rfl) (fun _ _ _ h => h) (Or.inl ⟨by kernel_rfl, ?_⟩) (by assumption) ?_
  ·intro W0 hSw; (try dsimp only at hSw); go_simp <;> simp
  try simp only [Act.put, ah, ai, aj]
  refine wpAnyH_take (i := 58) (oi := ({ dst := some 115, op := Op.pick (Operand.tmp 104) (Operand.const (Value.bool true)) (Operand.tmp 114), type := 4, pos := "laws.go:172", after := #[{ on := 47, ground := Ground.data }, { on := 57, ground := Ground.data }], guard := none } : Oper)) (v := (.bool false)) rfl (by kernel_rfl) (by kernel_rfl) (by kernel_rfl) (fun _ _ _ h => h) (Or.inl ⟨by kernel_rfl, ?_⟩) (by assumption) ?_
  ·intro W0 hSw; (try dsimp only at hSw); go_simp <;> simp
  try simp only [Act.put, ah, ai, aj]
  refine wpAnyH_take (i := 59) (oi := ({ dst := some 116, op := Op.move (Operand.tmp 115), type := 4, pos := "laws.go:172", after := #[{ on := 58, ground := Ground.data }, { on := 56, ground := Ground.chain }], guard := none } : Oper)) (v := ?_) rfl (by kernel_rfl) (by kernel_rfl) (by kernel_rfl) (fun _ _ _ h => h) (Or.inl ⟨by kernel_rfl, ?_⟩) (by assumption) ?_
  rotate_left
  ·intro W0 hSw; (try dsimp only at hSw); go_simp <;> with_reducible rfl
  try simp only [Act.put, ah, ai, aj]
  refine wpAnyH_take (i := 60) (oi := ({ dst := some 117, op := Op.move (Operand.tmp 16), type := 23, pos := "laws.go:172", after := #[{ on := 59, ground := Ground.guard }], guard := some (59, false) } : Oper)) (v := ?_) rfl (by kernel_rfl) (by kernel_rfl) (by kernel_rfl) (fun _ _ _ h => h) (Or.inl ⟨by kernel_rfl, ?_⟩) (by assumption) ?_
  rotate_left
  ·intro W0 hSw; (try dsimp only at hSw); go_simp <;> with_reducible rfl
  try simp only [Act.put, ah, ai, aj]
  refine wpAnyH_take (i := 61) (oi := ({ dst := some 118, op := Op.move (Operand.tmp 17), type := 2, pos := "laws.go:172", after := #[{ on := 59, ground := Ground.guard }], guard := some (59, false) } : Oper)) (v := ?_) rfl (by kernel_rfl) (by kernel_rfl) (by kernel_rfl) (fun _ _ _ h => h) (Or.inl ⟨by kernel_rfl, ?_⟩) (by assumption) ?_
  rotate_left
  ·intro W0 hSw; (try dsimp only at hSw); go_simp <;> with_reducible rfl
  try simp only [Act.put, ah, ai, aj]
  refine wpAnyH_take (i := 63) (oi := ({ dst := some 120, op := Op.move (Operand.tmp 16), type := 23, pos := "laws.go:172", after := #[{ on := 59, ground := Ground.guard }], guard := some (59, false) } : Oper)) (v := ?_) rfl (by kernel_rfl) (by kernel_rfl) (by kernel_rfl) (fun _ _ _ h => h) (Or.inl ⟨by kernel_rfl, ?_⟩) (by assumption) ?_
  rotate_left
  ·intro W0 hSw; (try dsimp only at hSw); go_simp <;> with_reducible rfl
  try simp only [Act.put, ah, ai, aj]
  refine wpAnyH_take (i := 64) (oi := ({ dst := some 121, op := Op.move (Operand.tmp 17), type := 2, pos := "laws.go:172", after := #[{ on := 59, ground := Ground.guard }], guard := some (59, false) } : Oper)) (v := ?_) rfl (by kernel_rfl) (by kernel_rfl) (by kernel_rfl) (fun _ _ _ h => h) (Or.inl ⟨by kernel_rfl, ?_⟩) (by assumption) ?_
  rotate_left
  ·intro W0 hSw; (try dsimp only at hSw); go_simp <;> with_reducible rfl
  try simp only [Act.put, ah, ai, aj]
  refine wpAnyH_ready (rs := [62]) (by kernel_rfl) (by simp) ?_
  refine (AllReadyH.cons rfl (fun K hK => ?_) AllReadyH.nil)
  go_simp
  refine (yy cO1 V14 ((yy HC4).kept (yy HV)).stars ((yy HE).kept (yy HV))).mono ?_
  rintro e V15 ⟨rfl, hx⟩
  replace HV := yz (ak (yy HV) hx)
  clear hx 
  refine hK.out _ _ ?_ (fun hHeld15 => ?_)
  ·exact yy HKS _ (yy HV)
  clear hK K
  refine wpAnyH_ready (rs := [65]) (by kernel_rfl) (by simp) ?_
  refine (AllReadyH.cons rfl (fun K hK => ?_) AllReadyH.nil)
  go_simp
  refine (yy cO2 V15 ((yy HC4).kept (yy HV)).stars).mono ?_
  rintro e V16 ⟨rfl, hx⟩
  replace HV := yz (ak (yy HV) hx)
  clear hx 
  refine hK.out _ _ ?_ (fun hHeld16 => ?_)
  ·exact yy HKS _ (yy HV)
  clear hK K
  refine wpAnyH_take (i := 66) (oi := ({ dst := some 123, op := Op.binOp BinOp.neq 33 (Operand.tmp 119) (Operand.tmp 122) 33, type := 4, pos := "laws.go:172", after := #[{ on := 62, ground := Ground.data }, { on := 65, ground := Ground.data }, { on := 59, ground := Ground.guard }], guard := some (59, false) } : Oper)) (v := (.bool false)) rfl (by kernel_rfl) (by kernel_rfl) (by kernel_rfl) (fun _ _ _ h => h) (Or.inl ⟨by kernel_rfl, ?_⟩) (by assumption) ?_
  ·intro W0 hSw; (try dsimp only at hSw); go_simp <;> simp [hqv]
  try simp only [Act.put, ah, ai, aj]
  refine wpAnyH_take (i := 67) (oi := ({ dst := some 124, op := Op.pick (Operand.tmp 116) (Operand.const (Value.bool true)) (Operand.tmp 123), type := 4, pos := "laws.go:172", after := #[{ on := 59, ground := Ground.data }, { on := 66, ground := Ground.data }], guard := none } : Oper)) (v := (.bool false)) rfl (by kernel_rfl) (by kernel_rfl) (by kernel_rfl) (fun _ _ _ h => h) (Or.inl ⟨by kernel_rfl, ?_⟩) (by assumption) ?_
  ·intro W0 hSw; (try dsimp only at hSw); go_simp <;> simp
  try simp only [Act.put, ah, ai, aj]
  refine wpAnyH_done (by kernel_rfl) ?_ _
  go_wp2_with fail
  go_meet
  exact ⟨_, rfl, rfl, HV⟩
 case rest => as_aux_lemma =>
  obtain ⟨wv, hwv, hu, HV⟩ := hcut
  subst hu
  clear hwv wv HKS cB cR1 cR2 cOS cOP cA1 cA2 cOQ cE1 cE2 cON cO1 cO2 cXS cPS hqv HC2 HC3 HC4 HA HBv hcm2 hcm3 hcm4 hcq2 hcq3 hcq4 hal hsl Q N v1 v2 v3
  have hx := yy HV
  replace HE := yz ((yy HE).kept hx)
  replace HC : Hid (ap _ w.heap.size L sa sc) := yz ((yy HC).kept hx)
  replace HB := yz (ak (yy HB) hx)
  replace HCX : Hid (ap _ W3.heap.size X xa xc) := yz ((yy HCX).kept hx)
  replace HX := yz ((yy HX).kept hx)
  replace HP := yz ((yy HP).kept hx)
  replace HT := yz ((yy HT).kept hx)
  clear hx HV
  have x0 := (yy HX).cell 0 _ rfl
  have x1 := (yy HX).cell 1 _ rfl
  have hcx := (yy HCX).capMax
  go_upto_region 13 with fail
  go_cut [146] (fun v wx => ∃ wv : World, wv = wx ∧ v = .bool false ∧ Hid (Below wc.heap.size wc wx))
  case first => as_aux_lemma =>
   have HV0 : Hid (Below wc.heap.size wc wc) := yz (Below.refl _ _)
   cases kb
   ·have htx : tx = ⟨#[]⟩ := by rw [yy HTX]; exact qF (yy HKB).symm
    subst htx
    have hqe := fK ⟨#[]⟩
    by_cases hk0 : ¬ xk = 0
    ·have hk1 : (xk == 0) = false := by simpa using hk0
     go_wp2_with fail
     go_meet
     exact ⟨_, rfl, rfl, HV0⟩
    replace hk0 : xk = 0 := Decidable.not_not.mp hk0
    subst hk0
    have cB2 := yz (fb X xa xc p wc (by omega) hcx.1 (by omega) ((yy HCX).kept (yy HV0)).stars ((yy HE).kept (yy HV0)))
    rw [yy HXF rfl] at cB2
    have hqu := fK u
    go_wp2_with fail
    refine (yy cB2).mono ?_
    rintro e V9 ⟨rfl, hx⟩
    have HV9 := yz (ak (yy HV0) hx)
    clear hx cB2
    go_wp2_with fail
    go_meet
    exact ⟨_, rfl, rfl, HV9⟩
   ·have htz : tx.size ≠ 0 := by rw [yy HTX]; have := rQ (yy HKB).symm; omega
    have hqe := oP tx htz
    have hnt := ie htz
    have hni : tx.toList.isEmpty = false := by cases h : tx.toList with | nil => exact absurd h hnt | cons a b => rfl
    have er : eq tx = L ∧ gg tx = 0 := by rw [yy HTX]; exact qQ (yy HKB).symm
    have cT := yz (lG tx p wc (by omega) (yy HE))
    rw [er.1, er.2] at cT
    clear er
    go_wp2_with fail
    refine (yy cT).mono ?_
    rintro e V1 ⟨⟨ta, tcp, rfl, hq⟩, hx⟩
    have HV1 := yz hx
    have HQ1 := yz hq
    have hf0 := lr ta L.length tcp 0
    clear hx hq cT
    go_wp2_with fail
    refine (kj L ta sa tcp sc V1 (by omega) (yy HQ1).stars ((yy HC).kept (yy HV1)).stars).mono ?_
    rintro e V2 ⟨rfl, hx⟩
    have HV2 := yz (ak (yy HV1) hx)
    clear hx HQ1 HV1
    have y0 := ((yy HX).kept (yy HV2)).cell 0 _ rfl
    have y1 := ((yy HX).kept (yy HV2)).cell 1 _ rfl
    by_cases hk0 : ¬ xk = 0
    ·have hk1 : (xk == 0) = false := by simpa using hk0
     go_wp2_with fail
     go_meet
     exact ⟨_, rfl, rfl, HV2⟩
    replace hk0 : xk = 0 := Decidable.not_not.mp hk0
    subst hk0
    have cB2 := yz (fb X xa xc p V2 (by omega) hcx.1 (by omega) ((yy HCX).kept (yy HV2)).stars ((yy HE).kept (yy HV2)))
    rw [yy HXF rfl] at cB2
    have hqu := fK u
    go_wp2_with fail
    refine (yy cB2).mono ?_
    rintro e V9 ⟨rfl, hx⟩
    have HV9 := yz (ak (yy HV2) hx)
    clear hx cB2
    go_wp2_with fail
    go_meet
    exact ⟨_, rfl, rfl, HV9⟩
  case rest => as_aux_lemma =>
   obtain ⟨wv, hwv, hu, HV⟩ := hcut
   subst hu
   clear hwv wv x0 x1 hcx
   have hx := yy HV
   replace HE := yz ((yy HE).kept hx)
   replace HC : Hid (ap _ w.heap.size L sa sc) := yz ((yy HC).kept hx)
   replace HB := yz (ak (yy HB) hx)
   replace HP := yz ((yy HP).kept hx)
   replace HT := yz ((yy HT).kept hx)
   clear hx HV HCX HX HXF hqs HTX hts hus
   have cK := yz (bL L sa sc _ (by omega) (yy HC).stars)
   rw [← yy HKB] at cK
   go_wp2_with fail
   refine (yy cK).mono ?_
   rintro e U1 ⟨rfl, hx⟩
   replace HE := yz ((yy HE).kept hx)
   replace HC : Hid (ap _ w.heap.size L sa sc) := yz ((yy HC).kept hx)
   replace HB := yz (ak (yy HB) hx)
   replace HP := yz ((yy HP).kept hx)
   replace HT := yz ((yy HT).kept hx)
   clear hx cK
   cases kb
   ·go_wp2_with fail
    go_ret
    exact ⟨rfl, yy HB⟩
   have hsk := (yy HKB).symm
   have hpm := oV hsk
   rw [← yy HPE] at hpm
   have h12 := (aQ hsk).1
   have SK := yz hsk
   clear hsk HKB
   have HPM := yz hpm
   clear hpm
   obtain ⟨q1, q2, q3⟩ := sH h12 (yy HPM)
   clear HPM
   go_wp2_with fail
   clear q1 q2 q3
   have HU := HB
   go_loopw [18] (fun v wr => ∃ k : Nat, v = .int .i64 ((k : Int) + 1) ∧ k ≤ 145 ∧ Hid (Below U1.heap.size U1 wr)) (fun v _ => 200 - (intOf v).toNat)
   case atStart => exact ⟨0, rfl, by omega, yz (Below.refl _ _)⟩
   case round =>
    obtain ⟨k, rfl, hk5, HV⟩ := hrel
    by_cases hkn : k + 1 < P.length
    ·have hkn2 : (k : Int) + 1 < (P.length : Int) := by omega
     have hpp : ∃ b o, pa = some ⟨b, o, none⟩ ∧ b < U1.heap.size ∧ ∀ i, i < P.length → U1.cell? ⟨b, o + i * 2, none⟩ = some (.int .i64 (prA P i).1) ∧ U1.cell? ⟨b, o + i * 2 + 1, none⟩ = some (.int .i64 (prA P i).2) := by
      rcases yy HP with h | h
      ·omega
      ·exact h
     obtain ⟨pb, po, hpa, hpb, hpc⟩ := hpp
     subst hpa
     have HCC := yz (oW (yy SK) (k := k) (by rw [← yy HPE]; exact hkn))
     rw [← yy HPE] at HCC
     have e1 := hpc k (by omega)
     have e2 := hpc (k + 1) (by omega)
     generalize (prA P k).1 = i1 at *
     generalize (prA P k).2 = i2 at *
     generalize (prA P (k + 1)).1 = i3 at *
     generalize (prA P (k + 1)).2 = i4 at *
     have HKS : Hid (∀ w' : World, Below U1.heap.size U1 w' → w'.cell? ⟨pb, po + k * 2, none⟩ = some (.int .i64 i1) ∧ w'.cell? ⟨pb, po + k * 2 + 1, none⟩ = some (.int .i64 i2) ∧ w'.cell? ⟨pb, po + (k + 1) * 2, none⟩ = some (.int .i64 i3) ∧ w'.cell? ⟨pb, po + (k + 1) * 2 + 1, none⟩ = some (.int .i64 i4)) := yz (fun w' h => ⟨by rw [h.cell hpb]; exact e1.1, by rw [h.cell hpb]; exact e1.2, by rw [h.cell hpb]; exact e2.1, by rw [h.cell hpb]; exact e2.2⟩)
     clear e1 e2 hpc
     have cO := yz (fun (W : World) (id : Int) (hS : aA W sa L L.length) => du L id sa sc W (by omega) hS)
     unfold dP at cO
     obtain ⟨⟨f1, f2, f3⟩, HEf⟩ : ∃ x, x = bo L i1 := ⟨_, rfl⟩
     obtain ⟨⟨g1, g2, g3⟩, HEg⟩ : ∃ x, x = bo L i2 := ⟨_, rfl⟩
     obtain ⟨⟨h1, h2, h3⟩, HEh⟩ : ∃ x, x = bo L i3 := ⟨_, rfl⟩
     obtain ⟨⟨j1, j2, j3⟩, HEj⟩ : ∃ x, x = bo L i4 := ⟨_, rfl⟩
     have cf : Hid (∀ W : World, aA W sa L L.length → Calls Tryz.prog 25 #[.slice sa L.length sc, .int .i64 i1] W fun e w2 => e = .returned (.agg #[.int .i64 f1, .int .i64 f2, .int .i64 f3]) ∧ Below W.heap.size W w2) := yz (fun W hS => by have := yy cO W i1 hS; rw [← HEf] at this; exact this)
     have cg : Hid (∀ W : World, aA W sa L L.length → Calls Tryz.prog 25 #[.slice sa L.length sc, .int .i64 i2] W fun e w2 => e = .returned (.agg #[.int .i64 g1, .int .i64 g2, .int .i64 g3]) ∧ Below W.heap.size W w2) := yz (fun W hS => by have := yy cO W i2 hS; rw [← HEg] at this; exact this)
     have ch : Hid (∀ W : World, aA W sa L L.length → Calls Tryz.prog 25 #[.slice sa L.length sc, .int .i64 i3] W fun e w2 => e = .returned (.agg #[.int .i64 h1, .int .i64 h2, .int .i64 h3]) ∧ Below W.heap.size W w2) := yz (fun W hS => by have := yy cO W i3 hS; rw [← HEh] at this; exact this)
     have cj : Hid (∀ W : World, aA W sa L L.length → Calls Tryz.prog 25 #[.slice sa L.length sc, .int .i64 i4] W fun e w2 => e = .returned (.agg #[.int .i64 j1, .int .i64 j2, .int .i64 j3]) ∧ Below W.heap.size W w2) := yz (fun W hS => by have := yy cO W i4 hS; rw [← HEj] at this; exact this)
     rw [← HEf, ← HEg, ← HEh, ← HEj] at HCC
     clear HEf HEg HEh HEj cO
     have hcos : ¬ 0 < dH f1 f2 f3 g1 g2 g3 h1 h2 h3 j1 j2 j3 := by have h := yy HCC; dsimp only at h; omega
     have cC := yz (fun (W : World) => eT f1 f2 f3 g1 g2 g3 h1 h2 h3 j1 j2 j3 W)
     generalize dH f1 f2 f3 g1 g2 g3 h1 h2 h3 j1 j2 j3 = cz at *
     clear HCC
     have hk0 : (0 : Int) ≤ (k : Int) := by omega
     have hk9 : (k : Int) ≤ 1048576 := by omega
     have hk1 : (k : Int) < (P.length : Int) := by omega
     go_upto_region 22 with fail
     go_cut [197] (fun v wx => ∃ wv : World, wv = wx ∧ v = .bool false ∧ Hid (Below U1.heap.size U1 wx))
     case first => as_aux_lemma =>
      obtain ⟨k1, k2, k3, k4⟩ := yy HKS wr (yy HV)
      have r1 := cell_regrown k1
      have r2 := cell_regrown k2
      have r3 := cell_regrown k3
      have r4 := cell_regrown k4
      clear k1 k2 k3 k4
      have HCr := yz ((yy HC).kept (yy HV))
      clear HKS
      refine wp_region_quiet_below (by kernel_rfl) (by kernel_rfl) ?_
      repeat (go_big_quiet_step (first | (with_reducible exact Calls.regrown_of (yy cf _ ((yy HCr).kept (below_regrown _ _ _)).stars)) | (with_reducible exact Calls.regrown_of (yy cg _ ((yy HCr).kept (below_regrown _ _ _)).stars)) | (with_reducible exact Calls.regrown_of (yy ch _ ((yy HCr).kept (below_regrown _ _ _)).stars)) | (with_reducible exact Calls.regrown_of (yy cj _ ((yy HCr).kept (below_regrown _ _ _)).stars)) | (with_reducible exact Calls.regrown_of (yy cC _))))
      refine wpQuiet_nil ?_
      intro _ hw'
      obtain ⟨⟨dq, osq⟩, hw''⟩ := hw'
      subst hw''
      have hx := ak (yy HV) (below_regrown wr dq osq)
      generalize grow (redrawn wr dq) osq = W2 at hx ⊢
      have HV2 := yz hx
      clear hx HV r1 r2 r3 r4
      go_wp2_with fail
      go_meet
      exact ⟨_, rfl, rfl, HV2⟩
     case rest => as_aux_lemma =>
      obtain ⟨wv, hwv, hu, HV2⟩ := hcut
      subst hu
      clear hwv wv
      go_wp2_with fail
      go_roundw
      case rel => exact ⟨k + 1, by go_num, by omega, HV2⟩
      case measure => simp [intOf] <;> omega
    ·have hkn2 : ¬ (k : Int) + 1 < (P.length : Int) := by omega
     clear hkn
     replace HE := yz ((yy HE).kept (yy HV))
     replace HC : Hid (ap _ w.heap.size L sa sc) := yz ((yy HC).kept (yy HV))
     replace HB := yz (ak (yy HB) (yy HV))
     replace HP := yz ((yy HP).kept (yy HV))
     replace HT := yz ((yy HT).kept (yy HV))
     clear HV HU
     obtain ⟨t0, t1, t2, t3⟩ := bcs4 (yy HT)
     by_cases hp0 : P.length = 0
     ·have hpz : ((P.length : Int) == 0) = true := by rw [hp0]; rfl
      go_wp2_with fail
      go_ret
      exact ⟨rfl, yy HB⟩
     have hpz : ((P.length : Int) == 0) = false := by simp [hp0]
     have cT := yz (fun (W : World) => bn A B C D W)
     cases ht : aM A B C D
     ·rw [ht] at cT
      go_wp2_with fail
      refine (yy cT _).mono ?_
      rintro e U2 ⟨rfl, hx⟩
      replace HB := yz (ak (yy HB) hx)
      clear hx
      go_wp2_with fail
      go_ret
      exact ⟨rfl, yy HB⟩
     rw [ht] at cT
     have HRT := yz ht
     clear ht
     go_wp2_with fail
     refine (yy cT _).mono ?_
     rintro e U2 ⟨rfl, hx⟩
     replace HE := yz ((yy HE).kept hx)
     replace HC : Hid (ap _ w.heap.size L sa sc) := yz ((yy HC).kept hx)
     replace HB := yz (ak (yy HB) hx)
     replace HP := yz ((yy HP).kept hx)
     replace HT := yz ((yy HT).kept hx)
     clear hx cT t0 t1 t2 t3
     go_wp2_with fail
     refine (ry da len2 dc 0 (P.length : Int) _ hl2 (by omega) (by omega) ((yy HR2).upI (yy HB).size (yy HB).block)).mono ?_
     rintro e U3 ⟨kz, rfl, kz0, kz1, kz2, hue⟩
     subst hue
     obtain ⟨m, rfl⟩ := Int.eq_ofNat_of_zero_le kz0
     have hm : m < P.length := by omega
     have hm2 : (m : Int) < (P.length : Int) := by omega
     clear kz0 kz1 kz2
     have hpp : ∃ b o, pa = some ⟨b, o, none⟩ ∧ b < U3.heap.size ∧ ∀ i, i < P.length → U3.cell? ⟨b, o + i * 2, none⟩ = some (.int .i64 (prA P i).1) ∧ U3.cell? ⟨b, o + i * 2 + 1, none⟩ = some (.int .i64 (prA P i).2) := by
      rcases yy HP with h | h
      ·omega
      ·exact h
     obtain ⟨pb, po, hpa, hpb, hpc⟩ := hpp
     subst hpa
     have HF := yz (oR (yy SK) (yy HRT) (k := m) (by rw [← yy HPE]; exact hm))
     rw [← yy HPE] at HF
     have e1 := hpc m hm
     obtain ⟨⟨i1, i2⟩, HI⟩ : ∃ x, Hid (x = prA P m) := ⟨_, yz rfl⟩
     rw [← yy HI] at e1 HF
     clear HI hpc
     dsimp only at e1 HF
     have e10 := e1.1
     have e11 := e1.2
     clear e1
     go_wp2_with fail
     have hy := am U3 (.cells #[.int .i64 i1, .int .i64 i2] 52)
     have HO := yz (bj U3 [.int .i64 i1, .int .i64 i2] 52)
     replace HE := yz ((yy HE).kept hy)
     replace HC : Hid (ap _ w.heap.size L sa sc) := yz ((yy HC).kept hy)
     replace HT := yz ((yy HT).kept hy)
     replace HB := yz (ak (yy HB) hy)
     clear hy
     generalize U3.alloc (.cells #[.int .i64 i1, .int .i64 i2] 52) = U4 at *
     generalize U3.heap.size = ob at *
     obtain ⟨⟨v1, v2, v3⟩, HV1⟩ : ∃ x, Hid (x = bo L i1) := ⟨_, yz rfl⟩
     obtain ⟨⟨y1, y2, y3⟩, HV2⟩ : ∃ x, Hid (x = bo L i2) := ⟨_, yz rfl⟩
     obtain ⟨⟨f1, f2, f3⟩, HF1⟩ : ∃ x, Hid (x = apV A B C D (v1, v2, v3)) := ⟨_, yz rfl⟩
     obtain ⟨⟨g1, g2, g3⟩, HF2⟩ : ∃ x, Hid (x = apV A B C D (y1, y2, y3)) := ⟨_, yz rfl⟩
     rw [← yy HV1, ← yy HV2, ← yy HF1, ← yy HF2] at HF
     have cO1 : Hid (∀ W : World, aA W sa L L.length → Calls Tryz.prog 25 #[.slice sa L.length sc, .int .i64 i1] W fun e w2 => e = .returned (.agg #[.int .i64 v1, .int .i64 v2, .int .i64 v3]) ∧ Below W.heap.size W w2) := yz (fun W hS => by have h := du L i1 sa sc W (by omega) hS; unfold dP at h; rw [← yy HV1] at h; exact h)
     have cO2 : Hid (∀ W : World, aA W sa L L.length → Calls Tryz.prog 25 #[.slice sa L.length sc, .int .i64 i2] W fun e w2 => e = .returned (.agg #[.int .i64 y1, .int .i64 y2, .int .i64 y3]) ∧ Below W.heap.size W w2) := yz (fun W hS => by have h := du L i2 sa sc W (by omega) hS; unfold dP at h; rw [← yy HV2] at h; exact h)
     have cP1 : Hid (∀ W : World, Calls Tryz.prog 29 #[.agg #[.int .i64 A, .int .i64 B, .int .i64 C, .int .i64 D], .agg #[.int .i64 v1, .int .i64 v2, .int .i64 v3]] W fun e w2 => e = .returned (.agg #[.int .i64 f1, .int .i64 f2, .int .i64 f3]) ∧ Below W.heap.size W w2) := yz (fun W => by have h := il A B C D v1 v2 v3 W; have q := yy HF1; unfold apV at q; injection q with q1 q; injection q with q2 q3; rw [q1, q2, q3]; exact h)
     have cP2 : Hid (∀ W : World, Calls Tryz.prog 29 #[.agg #[.int .i64 A, .int .i64 B, .int .i64 C, .int .i64 D], .agg #[.int .i64 y1, .int .i64 y2, .int .i64 y3]] W fun e w2 => e = .returned (.agg #[.int .i64 g1, .int .i64 g2, .int .i64 g3]) ∧ Below W.heap.size W w2) := yz (fun W => by have h := il A B C D y1 y2 y3 W; have q := yy HF2; unfold apV at q; injection q with q1 q; injection q with q2 q3; rw [q1, q2, q3]; exact h)
     obtain ⟨Q, HQE⟩ : ∃ x, Hid (x = aP L (f1, f2, f3) (g1, g2, g3)) := ⟨_, yz rfl⟩
     have hql := lh L (f1, f2, f3) (g1, g2, g3)
     rw [← yy HQE] at hql HF
     have cQ : Hid (∀ W : World, aA W sa L L.length → aU p W → Calls Tryz.prog 19 #[.slice sa L.length sc, .agg #[.int .i64 f1, .int .i64 f2, .int .i64 f3], .agg #[.int .i64 g1, .int .i64 g2, .int .i64 g3]] W fun e w2 => (∃ x k, e = .returned (.slice x Q.length k) ∧ Prs w2 x Q Q.length) ∧ Below W.heap.size W w2) := yz (fun W hS hE => by have h := jN L sa sc f1 f2 f3 g1 g2 g3 p W (by omega) hcm.1 hcm.2 hS hE; rw [← yy HQE] at h; exact h)
     clear HV1 HV2 HF1 HF2 HQE
     have HKS : Hid (∀ w' : World, Below U4.heap.size U4 w' → w'.cell? ⟨tb, 0, none⟩ = some (.int .i64 A) ∧ w'.cell? ⟨tb, 1, none⟩ = some (.int .i64 B) ∧ w'.cell? ⟨tb, 2, none⟩ = some (.int .i64 C) ∧ w'.cell? ⟨tb, 3, none⟩ = some (.int .i64 D) ∧ w'.cell? ⟨ob, 0, none⟩ = some (.int .i64 i1) ∧ w'.cell? ⟨ob, 1, none⟩ = some (.int .i64 i2)) := yz (fun w' h => ⟨((yy HT).kept h).cell 0 _ rfl, ((yy HT).kept h).cell 1 _ rfl, ((yy HT).kept h).cell 2 _ rfl, ((yy HT).kept h).cell 3 _ rfl, ((yy HO).kept h).cell 0 _ rfl, ((yy HO).kept h).cell 1 _ rfl⟩)
     refine wp_region_held_drew (S := (fun w' => w'.cell? ⟨tb, 0, none⟩ = some (.int .i64 A) ∧ w'.cell? ⟨tb, 1, none⟩ = some (.int .i64 B) ∧ w'.cell? ⟨tb, 2, none⟩ = some (.int .i64 C) ∧ w'.cell? ⟨tb, 3, none⟩ = some (.int .i64 D) ∧ w'.cell? ⟨ob, 0, none⟩ = some (.int .i64 i1) ∧ w'.cell? ⟨ob, 1, none⟩ = some (.int .i64 i2))) (by kernel_rfl) (yy HKS U4 (Below.refl _ _)) (fun hHeld => ?_)
     have HV : Hid (Below U4.heap.size U4 U4.drew) := yz (Below.refl U4.heap.size U4).drew
     refine wpAnyH_take (i := 0) (oi := ({ dst := some 213, op := Op.move (Operand.tmp 5), type := 23, pos := "laws.go:193", after := #[], guard := none } : Oper)) (v := ?_) rfl (by kernel_rfl) (by kernel_rfl) (by kernel_rfl) (fun _ _ _ h => h) (Or.inl ⟨by kernel_rfl, ?_⟩) (by assumption) ?_
     rotate_left
     ·intro W0 hSw; (try dsimp only at hSw); go_simp <;> with_reducible rfl
     try simp only [Act.put, ah, ai, aj]
     refine wpAnyH_take (i := 1) (oi := ({ dst := some 214, op := Op.load 37 (Operand.tmp 14), type := 37, pos := "laws.go:193", after := #[], guard := none } : Oper)) (v := ?_) rfl (by kernel_rfl) (by kernel_rfl) (by kernel_rfl) (fun _ _ _ h => h) (Or.inl ⟨by kernel_rfl, ?_⟩) (by assumption) ?_
     rotate_left
     ·intro W0 hSw; (try dsimp only at hSw); go_simp <;> with_reducible rfl
     try simp only [Act.put, ah, ai, aj]
     refine wpAnyH_take (i := 2) (oi := ({ dst := some 215, op := Op.move (Operand.tmp 5), type := 23, pos := "laws.go:193", after := #[], guard := none } : Oper)) (v := ?_) rfl (by kernel_rfl) (by kernel_rfl) (by kernel_rfl) (fun _ _ _ h => h) (Or.inl ⟨by kernel_rfl, ?_⟩) (by assumption) ?_
     rotate_left
     ·intro W0 hSw; (try dsimp only at hSw); go_simp <;> with_reducible rfl
     try simp only [Act.put, ah, ai, aj]
     refine wpAnyH_take (i := 3) (oi := ({ dst := some 216, op := Op.fieldAddr 52 (Operand.tmp 19) 0, type := 0, pos := "laws.go:193", after := #[], guard := none } : Oper)) (v := ?_) rfl (by kernel_rfl) (by kernel_rfl) (by kernel_rfl) (fun _ _ _ h => h) (Or.inl ⟨by kernel_rfl, ?_⟩) (by assumption) ?_
     rotate_left
     ·intro W0 hSw; (try dsimp only at hSw); go_simp <;> with_reducible rfl
     try simp only [Act.put, ah, ai, aj]
     refine wpAnyH_take (i := 4) (oi := ({ dst := some 217, op := Op.load 2 (Operand.tmp 216), type := 2, pos := "laws.go:193", after := #[{ on := 3, ground := Ground.data }], guard := none } : Oper)) (v := ?_) rfl (by kernel_rfl) (by kernel_rfl) (by kernel_rfl) (fun _ _ _ h => h) (Or.inl ⟨by kernel_rfl, ?_⟩) (by assumption) ?_
     rotate_left
     ·intro W0 hSw; (try dsimp only at hSw); go_simp <;> with_reducible rfl
     try simp only [Act.put, ah, ai, aj]
     refine wpAnyH_take (i := 7) (oi := ({ dst := some 220, op := Op.load 37 (Operand.tmp 14), type := 37, pos := "laws.go:193", after := #[], guard := none } : Oper)) (v := ?_) rfl (by kernel_rfl) (by kernel_rfl) (by kernel_rfl) (fun _ _ _ h => h) (Or.inl ⟨by kernel_rfl, ?_⟩) (by assumption) ?_
     rotate_left
     ·intro W0 hSw; (try dsimp only at hSw); go_simp <;> with_reducible rfl
     try simp only [Act.put, ah, ai, aj]
     refine wpAnyH_take (i := 8) (oi := ({ dst := some 221, op := Op.move (Operand.tmp 5), type := 23, pos := "laws.go:193", after := #[], guard := none } : Oper)) (v := ?_) rfl (by kernel_rfl) (by kernel_rfl) (by kernel_rfl) (fun _ _ _ h => h) (Or.inl ⟨by kernel_rfl, ?_⟩) (by assumption) ?_
     rotate_left
     ·intro W0 hSw; (try dsimp only at hSw); go_simp <;> with_reducible rfl
     try simp only [Act.put, ah, ai, aj]
     refine wpAnyH_take (i := 9) (oi := ({ dst := some 222, op := Op.fieldAddr 52 (Operand.tmp 19) 1, type := 0, pos := "laws.go:193", after := #[], guard := none } : Oper)) (v := ?_) rfl (by kernel_rfl) (by kernel_rfl) (by kernel_rfl) (fun _ _ _ h => h) (Or.inl ⟨by kernel_rfl, ?_⟩) (by assumption) ?_
     rotate_left
     ·intro W0 hSw; (try dsimp only at hSw); go_simp <;> with_reducible rfl
     try simp only [Act.put, ah, ai, aj]
     refine wpAnyH_take (i := 10) (oi := ({ dst := some 223, op := Op.load 2 (Operand.tmp 222), type := 2, pos := "laws.go:193", after := #[{ on := 9, ground := Ground.data }], guard := none } : Oper)) (v := ?_) rfl (by kernel_rfl) (by kernel_rfl) (by kernel_rfl) (fun _ _ _ h => h) (Or.inl ⟨by kernel_rfl, ?_⟩) (by assumption) ?_
     rotate_left
     ·intro W0 hSw; (try dsimp only at hSw); go_simp <;> with_reducible rfl
     try simp only [Act.put, ah, ai, aj]
     refine wpAnyH_ready (rs := [5]) (by kernel_rfl) (by simp) ?_
     refine (AllReadyH.cons rfl (fun K hK => ?_) AllReadyH.nil)
     go_simp
     refine (yy cO1 U4.drew ((yy HC).kept (yy HV)).stars).mono ?_
     rintro e V1 ⟨rfl, hx⟩
     replace HV := yz (ak (yy HV) hx)
     clear hx
     refine hK.out _ _ ?_ (fun hHeld1 => ?_)
     ·exact yy HKS _ (yy HV)
     clear hK K
     refine wpAnyH_ready (rs := [6]) (by kernel_rfl) (by simp) ?_
     refine (AllReadyH.cons rfl (fun K hK => ?_) AllReadyH.nil)
     go_simp
     refine (yy cP1 V1).mono ?_
     rintro e V2 ⟨rfl, hx⟩
     replace HV := yz (ak (yy HV) hx)
     clear hx
     refine hK.out _ _ ?_ (fun hHeld2 => ?_)
     ·exact yy HKS _ (yy HV)
     clear hK K
     refine wpAnyH_ready (rs := [11]) (by kernel_rfl) (by simp) ?_
     refine (AllReadyH.cons rfl (fun K hK => ?_) AllReadyH.nil)
     go_simp
     refine (yy cO2 V2 ((yy HC).kept (yy HV)).stars).mono ?_
     rintro e V3 ⟨rfl, hx⟩
     replace HV := yz (ak (yy HV) hx)
     clear hx
     refine hK.out _ _ ?_ (fun hHeld3 => ?_)
     ·exact yy HKS _ (yy HV)
     clear hK K
     refine wpAnyH_ready (rs := [12]) (by kernel_rfl) (by simp) ?_
     refine (AllReadyH.cons rfl (fun K hK => ?_) AllReadyH.nil)
     go_simp
     refine (yy cP2 V3).mono ?_
     rintro e V4 ⟨rfl, hx⟩
     replace HV := yz (ak (yy HV) hx)
     clear hx
     refine hK.out _ _ ?_ (fun hHeld4 => ?_)
     ·exact yy HKS _ (yy HV)
     clear hK K
     refine wpAnyH_ready (rs := [13]) (by kernel_rfl) (by simp) ?_
     refine (AllReadyH.cons rfl (fun K hK => ?_) AllReadyH.nil)
     go_simp
     refine (yy cQ V4 ((yy HC).kept (yy HV)).stars ((yy HE).kept (yy HV))).mono ?_
     rintro e V5 ⟨⟨qa, qc, rfl, hq⟩, hx⟩
     replace HV := yz (ak (yy HV) hx)
     have HQ := yz hq
     clear hq
     clear hx
     refine hK.out _ _ ?_ (fun hHeld5 => ?_)
     ·exact yy HKS _ (yy HV)
     clear hK K
     refine wpAnyH_take (i := 14) (oi := ({ dst := some 20, op := Op.assign (Operand.tmp 226), type := 30, pos := "laws.go:193", after := #[{ on := 13, ground := Ground.data }, { on := 13, ground := Ground.chain }, { on := 0, ground := Ground.phase }, { on := 1, ground := Ground.phase }, { on := 2, ground := Ground.phase }, { on := 3, ground := Ground.phase }, { on := 4, ground := Ground.phase }, { on := 5, ground := Ground.phase }, { on := 6, ground := Ground.phase }, { on := 7, ground := Ground.phase }, { on := 8, ground := Ground.phase }, { on := 9, ground := Ground.phase }, { on := 10, ground := Ground.phase }, { on := 11, ground := Ground.phase }, { on := 12, ground := Ground.phase }, { on := 13, ground := Ground.phase }], guard := none } : Oper)) (v := ?_) rfl (by kernel_rfl) (by kernel_rfl) (by kernel_rfl) (fun _ _ _ h => h) (Or.inl ⟨by kernel_rfl, ?_⟩) (by assumption) ?_
     rotate_left
     ·intro W0 hSw; (try dsimp only at hSw); go_simp <;> with_reducible rfl
     try simp only [Act.put, ah, ai, aj]
     refine wpAnyH_done (by kernel_rfl) ?_ _
     clear cO1 cO2 cP1 cP2 cQ HKS HC HE HT
     replace HO := yz ((yy HO).kept (yy HV))
     replace HB := yz (ak (yy HB) (yy HV))
     clear HV
     go_wp2_with fail
     replace HQ : Hid (Prs V5 qa Q Q.length) := HQ
     go_loopw [21] (fun v wr => ∃ k : Nat, v = .int .i64 k ∧ k ≤ Q.length ∧ Hid (∀ q, q < k → ¬ prA Q q = (i1, i2)) ∧ Hid (Below V5.heap.size V5 wr)) (fun v _ => Q.length - (intOf v).toNat)
     case atStart => exact ⟨0, rfl, by omega, yz (fun q hq => absurd hq (Nat.not_lt_zero _)), yz (Below.refl _ _)⟩
     case round =>
      obtain ⟨k, rfl, hkQ, HN, HV⟩ := hrel
      by_cases hkn : k < Q.length
      ·have hkn2 : (k : Int) < (Q.length : Int) := by omega
       have hqq : ∃ b o, qa = some ⟨b, o, none⟩ ∧ wr.cell? ⟨b, o + k * 2, none⟩ = some (.int .i64 (prA Q k).1) ∧ wr.cell? ⟨b, o + k * 2 + 1, none⟩ = some (.int .i64 (prA Q k).2) := by
        rcases (yy HQ).kept (yy HV) with h | ⟨b, o, e, _, h⟩
        ·omega
        ·exact ⟨b, o, e, h k hkn⟩
       obtain ⟨qb, qo, rfl, c0, c1⟩ := hqq
       have d0 := ((yy HO).kept (yy HV)).cell 0 _ rfl
       have d1 := ((yy HO).kept (yy HV)).cell 1 _ rfl
       have HNk : Hid (∀ a b, (prA Q k).1 = a → (prA Q k).2 = b → prA Q k = (a, b)) := yz (fun a b h1 h2 => by rw [← h1, ← h2])
       obtain ⟨j1, HJ1⟩ : ∃ x, Hid (x = (prA Q k).1) := ⟨_, yz rfl⟩
       obtain ⟨j2, HJ2⟩ : ∃ x, Hid (x = (prA Q k).2) := ⟨_, yz rfl⟩
       rw [← yy HJ1] at c0
       rw [← yy HJ2] at c1
       have r0 := cell_regrown c0
       have r1 := cell_regrown c1
       have t0 := cell_regrown d0
       have t1 := cell_regrown d1
       clear c0 c1 d0 d1
       by_cases he : j1 = i1 ∧ j2 = i2
       ·obtain ⟨h1, h2⟩ := he
        subst h1 h2
        have hq := kR j1 j2
        go_wp2_with fail
        refine wp_region_quiet_below (by kernel_rfl) (by kernel_rfl) ?_
        repeat (go_big_quiet_step (fail))
        refine wpQuiet_nil ?_
        intro _ hw'
        obtain ⟨⟨dq, osq⟩, hw''⟩ := hw'
        subst hw''
        have hx := ak (yy HV) (below_regrown wr dq osq)
        generalize grow (redrawn wr dq) osq = W2 at hx ⊢
        have HV2 := yz hx
        clear hx HV r0 r1 t0 t1
        go_wp2_with fail
        go_ret
        exact ⟨rfl, ak (yy HB) (yy HV2)⟩
       ·have hq := fun (W : World) => lY he W
        go_wp2_with fail
        refine wp_region_quiet_below (by kernel_rfl) (by kernel_rfl) ?_
        repeat (go_big_quiet_step (fail))
        refine wpQuiet_nil ?_
        intro _ hw'
        obtain ⟨⟨dq, osq⟩, hw''⟩ := hw'
        subst hw''
        have hx := ak (yy HV) (below_regrown wr dq osq)
        generalize grow (redrawn wr dq) osq = W2 at hx ⊢
        have HV2 := yz hx
        clear hx HV r0 r1 t0 t1
        go_wp2_with fail
        go_roundw
        case rel => exact ⟨k + 1, by go_num, by omega, yz (fun q hq1 e => by
          rcases Nat.lt_or_ge q k with c | c
          ·exact yy HN q c e
          ·have e2 : q = k := by omega
           rw [e2] at e
           exact he ⟨by rw [yy HJ1, e], by rw [yy HJ2, e]⟩), HV2⟩
        case measure => simp [intOf] <;> omega
      ·exfalso
       have e : k = Q.length := by omega
       subst e
       obtain ⟨q, hq, e⟩ := List.getElem_of_mem (yy HF)
       refine yy HN q hq ?_
       unfold prA
       rw [List.getD, List.getElem?_eq_getElem hq]
       exact e
end
end Go.Proofs.YthoiooefclbecaaGreatDoor
