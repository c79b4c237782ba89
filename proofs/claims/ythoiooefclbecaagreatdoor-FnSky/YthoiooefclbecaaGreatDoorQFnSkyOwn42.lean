/- Several texts in one: InE, SyZ, SyD. -/
import Derived.Test.YthoiooefclbecaaGreatDoorQFnSkyOwn41
import Derived.Test.YthoiooefclbecaaGreatDoorQFnSkyOwn1
import Derived.Test.YthoiooefclbecaaGreatDoorQFnSkyOwn24
import Derived.Test.YthoiooefclbecaaGreatDoorQFnSkyOwn17
import Derived.Test.YthoiooefclbecaaGreatDoorQFnSkyOwn28
import Derived.Test.YthoiooefclbecaaGreatDoorQFnSkyOwn32
import Derived.Test.YthoiooefclbecaaGreatDoorQFnSkyOwn30
import Derived.Test.YthoiooefclbecaaGreatDoorQFnSkyOwn34
import Derived.Test.YthoiooefclbecaaGreatDoorQFnSkyOwn18
import Derived.Test.YthoiooefclbecaaGreatDoorQFnSkyOwn35
import Derived.Test.YthoiooefclbecaaGreatDoorQFnSkyOwn37
import Derived.Test.YthoiooefclbecaaGreatDoorQFnSkyOwn33
import Derived.Test.YthoiooefclbecaaGreatDoorQFnSkyOwn2
import Derived.Test.YthoiooefclbecaaGreatDoorQFnSkyOwn3
import Derived.Test.YthoiooefclbecaaGreatDoorQFnSkyOwn22
import Derived.Test.YthoiooefclbecaaGreatDoorQFnSkyOwn31
import Derived.Test.YthoiooefclbecaaGreatDoorQFnSkyOwn20
import Derived.Test.YthoiooefclbecaaGreatDoorQFnSkyOwn4
import Derived.Test.YthoiooefclbecaaGreatDoorQFnSkyOwn36
import Derived.Test.YthoiooefclbecaaGreatDoorQFnSkyOwn9
namespace Go.Proofs.YthoiooefclbecaaGreatDoor
set_option linter.unusedVariables false
set_option linter.unusedSimpArgs false
set_option maxRecDepth 100000
set_option maxHeartbeats 8000000
section
open Go.RowKit Go.Sort
theorem ks (T : Array Value) (X : World) (b : Nat) (v0 v1 v2 v3 x y : Value) (hT2 : T.getD 2 undef = x) (hT : T.getD 3 undef = .pointer (some ⟨b, 0, none⟩)) (hT4 : T.getD 4 undef = y) (h : Blk X b [v0, v1, v2, v3] 37) : (results Tryz.f10 T).run Tryz.prog X = .ok (.tuple #[x, .agg #[v0, v1, v2, v3], y]) X := by
 obtain ⟨h0, h1, h2, h3⟩ := bcs4 (h)
 simp only [Array.getD_eq_getD_getElem?] at hT hT2 hT4
 simp [results, Tryz.results10, go_sem, hT, hT2, hT4, h0, h1, h2, h3]
theorem fx {V : World} {lb m : Nat} (h : Blk V lb [.int .i64 0, .int .i64 50, .int .i64 80, .int .i64 90, .int .i64 100, .int .i64 (-1), .int .i64 101] 2) (hm : m < 7) : ∃ z : Int, V.cell? ⟨lb, m, none⟩ = some (.int .i64 z) := by
 rcases (by omega : m = 0 ∨ m = 1 ∨ m = 2 ∨ m = 3 ∨ m = 4 ∨ m = 5 ∨ m = 6) with rfl | rfl | rfl | rfl | rfl | rfl | rfl
 ·exact ⟨_, h.cell 0 _ rfl⟩
 ·exact ⟨_, h.cell 1 _ rfl⟩
 ·exact ⟨_, h.cell 2 _ rfl⟩
 ·exact ⟨_, h.cell 3 _ rfl⟩
 ·exact ⟨_, h.cell 4 _ rfl⟩
 ·exact ⟨_, h.cell 5 _ rfl⟩
 ·exact ⟨_, h.cell 6 _ rfl⟩
theorem lX (ca : Option Addr) (len cc : Nat) (w : World) (hl : len ≤ 1048576) (hR : Row w ca len w.heap.size) :
  Calls Tryz.prog 10 #[.slice ca len cc] w fun e w' => ∃ (L : List St) (sa : Option Addr) (sc : Nat) (A B C D cone : Int), e = .returned (.tuple #[.slice sa L.length sc, .agg #[.int .i64 A, .int .i64 B, .int .i64 C, .int .i64 D], .int .i64 cone]) ∧ L.length ≤ 13 ∧ ap w' w.heap.size L sa sc ∧ Below w.heap.size w w' := by
 have Z := am w (.cells #[.int .i64 0, .int .i64 0, .int .i64 0, .int .i64 0] 37)
 have HR := yz (bj w [.int .i64 0, .int .i64 0, .int .i64 0, .int .i64 0] 37)
 have hz : (w.alloc (.cells #[.int .i64 0, .int .i64 0, .int .i64 0, .int .i64 0] 37)).heap.size = w.heap.size + 1 := by simp
 have cS := yz (ex ca len cc (w.alloc (.cells #[.int .i64 0, .int .i64 0, .int .i64 0, .int .i64 0] 37)) hl (hR.upI Z.size Z.block))
 have HB := yz Z
 rw [hz] at cS
 clear hR Z
 go_enter Tryz.func10, Tryz.ntmps10
 go_upto_region 1 with fail
 generalize w.alloc (.cells #[.int .i64 0, .int .i64 0, .int .i64 0, .int .i64 0] 37) = W0 at *
 go_wp2_with fail
 refine (yy cS).mono ?_
 rintro e W1 ⟨rfl, hS1, hx⟩
 rw [← hz] at hx
 replace HR := yz ((yy HR).kept hx)
 replace HB := yz (ak (yy HB) hx)
 have HS1 := yz hS1
 have hlt : w.heap.size + 1 < W1.heap.size := hS1.lt
 clear hx hS1 cS
 have hnb : some w.heap.size ≠ some (w.heap.size + 1) := fun e => by have := Option.some.inj e; omega
 go_wp2_with fail
 refine (el (w.heap.size + 1) W1 (yy HS1)).mono ?_
 rintro e W2 ⟨L, sa, sc, rfl, hll, hK⟩
 replace HR := yz (an (yy HR) hK.gr hnb)
 replace HB := yz (aK (yy HB) hK.gr (yy HB).size (fun q e => by have := Option.some.inj e; omega))
 have HC := yz hK.row
 have HS := yz hK.src
 have hz1 := hK.gr.size
 clear hK HS1
 go_wp2_with fail
 refine (iV (w.heap.size + 1) W2 (yy HS)).mono ?_
 rintro e W3 ⟨A, B, C, D, rfl, hS3, hg3⟩
 replace HR := yz (an (yy HR) hg3 hnb)
 replace HB := yz (aK (yy HB) hg3 (yy HB).size (fun q e => by have := Option.some.inj e; omega))
 replace HC : Hid (ap W3 W1.heap.size L sa sc) := yz (World.ownsRow.kept (yy HC) hg3 (bC (yy HC) hlt))
 replace HS := yz hS3
 have hz3 := hg3.size
 clear hS3 hg3
 have hy := am W3 (.cells #[.int .i64 A, .int .i64 B, .int .i64 C, .int .i64 D] 37)
 have HU := yz (bj W3 [.int .i64 A, .int .i64 B, .int .i64 C, .int .i64 D] 37)
 replace HR := yz ((yy HR).kept hy)
 replace HB := yz (ak (yy HB) hy)
 replace HC : Hid (ap _ W1.heap.size L sa sc) := yz ((yy HC).kept hy)
 try replace HS := yz ((yy HS).below hy)
 have hz4 : (W3.alloc (.cells #[.int .i64 A, .int .i64 B, .int .i64 C, .int .i64 D] 37)).heap.size = W3.heap.size + 1 := by simp
 clear hy
 go_upto_region 4 with fail
 generalize W3.alloc (.cells #[.int .i64 A, .int .i64 B, .int .i64 C, .int .i64 D] 37) = W4 at *
 generalize W3.heap.size = ub at *
 have HKS : Hid (∀ w' : World, Blk w' ub [.int .i64 A, .int .i64 B, .int .i64 C, .int .i64 D] 37 → w'.cell? ⟨ub, 0, none⟩ = some (.int .i64 A) ∧ w'.cell? ⟨ub, 1, none⟩ = some (.int .i64 B) ∧ w'.cell? ⟨ub, 2, none⟩ = some (.int .i64 C) ∧ w'.cell? ⟨ub, 3, none⟩ = some (.int .i64 D)) := yz (fun w' hu => ⟨hu.cell 0 _ rfl, hu.cell 1 _ rfl, hu.cell 2 _ rfl, hu.cell 3 _ rfl⟩)
 refine wp_region_held_drew (S := (fun w' => w'.cell? ⟨ub, 0, none⟩ = some (.int .i64 A) ∧ w'.cell? ⟨ub, 1, none⟩ = some (.int .i64 B) ∧ w'.cell? ⟨ub, 2, none⟩ = some (.int .i64 C) ∧ w'.cell? ⟨ub, 3, none⟩ = some (.int .i64 D))) (by kernel_rfl) (yy HKS W4.drew (yy HU)) (fun hHeld => ?_)
 replace HR : Hid (Blk W4.drew _ _ _) := HR
 replace HU : Hid (Blk W4.drew _ _ _) := HU
 replace HC : Hid (ap _ W1.heap.size L sa sc) := yz ((yy HC).kept (Below.refl W4.heap.size W4).drew)
 replace HS := yz ((yy HS).below (Below.refl W4.heap.size W4).drew)
 replace HB := yz (ak (yy HB) (Below.refl W4.heap.size W4).drew)
 have hz5 : ub + 1 ≤ W4.drew.heap.size := by have : W4.drew.heap.size = W4.heap.size := rfl; omega
 obtain ⟨V0, HYY⟩ : ∃ YY, YY = W4.drew := ⟨_, rfl⟩
 rw [← HYY] at HR HU HC HS HB hHeld hz5 ⊢
 clear HYY
 refine ac 0 rfl ?_
 try simp only [Act.put, ah, ai, aj]
 refine ac 1 rfl ?_
 try simp only [Act.put, ah, ai, aj]
 refine ac 3 rfl ?_
 try simp only [Act.put, ah, ai, aj]
 refine wpAnyH_ready (rs := [2, 4]) (by kernel_rfl) (by simp) ?_
 refine (AllReadyH.cons rfl (fun K hK => ?_) (AllReadyH.cons rfl (fun K hK => ?_) AllReadyH.nil))
 ·go_simp
  have hy := am V0 (.cells #[.int .i64 0, .int .i64 50, .int .i64 80, .int .i64 90, .int .i64 100, .int .i64 (-1), .int .i64 101] 2)
  have HLb := yz (bj V0 [.int .i64 0, .int .i64 50, .int .i64 80, .int .i64 90, .int .i64 100, .int .i64 (-1), .int .i64 101] 2)
  have hzl : (V0.alloc (.cells #[.int .i64 0, .int .i64 50, .int .i64 80, .int .i64 90, .int .i64 100, .int .i64 (-1), .int .i64 101] 2)).heap.size = V0.heap.size + 1 := by simp
  replace HR := yz ((yy HR).kept hy)
  replace HU := yz ((yy HU).kept hy)
  replace HC : Hid (ap _ W1.heap.size L sa sc) := yz ((yy HC).kept hy)
  replace HB := yz (ak (yy HB) hy)
  try replace HS := yz ((yy HS).below hy)
  clear hy
  refine hK.out _ _ ?_ (fun hHeld1 => ?_)
  ·exact yy HKS _ (yy HU)
  clear hK K
  refine wpAnyH_ready (rs := [4]) (by kernel_rfl) (by simp) ?_
  refine (AllReadyH.cons rfl (fun K hK => ?_) AllReadyH.nil)
  go_simp
  refine (aT (w.heap.size + 1) 7 (V0.alloc (.cells #[.int .i64 0, .int .i64 50, .int .i64 80, .int .i64 90, .int .i64 100, .int .i64 (-1), .int .i64 101] 2)) (yy HS) (by decide)).mono ?_
  rintro e V2 ⟨m, rfl, m0, m7, _, hS7, hg7⟩
  replace m7 := m7 (by decide)
  obtain ⟨m, rfl⟩ := Int.eq_ofNat_of_zero_le m0
  have hm7 : (m : Int) < 7 := by omega
  replace HR := yz (an (yy HR) hg7 hnb)
  replace HU := yz (an (yy HU) hg7 (fun e => by have := Option.some.inj e; omega))
  replace HB := yz (aK (yy HB) hg7 (yy HB).size (fun q e => by have := Option.some.inj e; omega))
  replace HC : Hid (ap _ W1.heap.size L sa sc) := yz (World.ownsRow.kept (yy HC) hg7 (bC (yy HC) hlt))
  replace HLb := yz (an (yy HLb) hg7 (fun e => by have := Option.some.inj e; omega))
  replace HS := yz hS7
  have hzv := hg7.size
  clear hS7 hg7
  refine hK.out _ _ ?_ (fun hHeld2 => ?_)
  ·exact yy HKS _ (yy HU)
  clear hK K
  refine ac 5 rfl ?_
  try simp only [Act.put, ah, ai, aj]
  refine ac 7 rfl ?_
  try simp only [Act.put, ah, ai, aj]
  refine wpAnyH_ready (rs := [6, 8]) (by kernel_rfl) (by simp) ?_
  refine (AllReadyH.cons rfl (fun K hK => ?_) (AllReadyH.cons rfl (fun K hK => ?_) AllReadyH.nil))
  ·obtain ⟨zz, hzz⟩ := fx (yy HLb) (show m < 7 by omega)
   go_simp
   refine hK.out _ _ ?_ (fun hHeld3 => ?_)
   ·exact yy HKS _ (yy HU)
   clear hK K
   refine wpAnyH_ready (rs := [8]) (by kernel_rfl) (by simp) ?_
   refine (AllReadyH.cons rfl (fun K hK => ?_) AllReadyH.nil)
   obtain ⟨y0, y1, y2, y3⟩ : V2.cell? ⟨w.heap.size, 0, none⟩ = some (.int .i64 0) ∧ V2.cell? ⟨w.heap.size, 1, none⟩ = some (.int .i64 0) ∧ V2.cell? ⟨w.heap.size, 2, none⟩ = some (.int .i64 0) ∧ V2.cell? ⟨w.heap.size, 3, none⟩ = some (.int .i64 0) := ⟨(yy HR).cell 0 _ rfl, (yy HR).cell 1 _ rfl, (yy HR).cell 2 _ rfl, (yy HR).cell 3 _ rfl⟩
   obtain ⟨z0, z1, z2, z3⟩ : V2.frozen? ⟨w.heap.size, 0, none⟩ = false ∧ V2.frozen? ⟨w.heap.size, 1, none⟩ = false ∧ V2.frozen? ⟨w.heap.size, 2, none⟩ = false ∧ V2.frozen? ⟨w.heap.size, 3, none⟩ = false := ⟨(yy HR).free 0, (yy HR).free 1, (yy HR).free 2, (yy HR).free 3⟩
   have hraw := yy HR
   go_simp
   have hgq := gO V2 w.heap.size (.int .i64 A) (.int .i64 B) (.int .i64 C) (.int .i64 D)
   replace HR := yz (mO (yy HR) (.int .i64 A) (.int .i64 B) (.int .i64 C) (.int .i64 D))
   replace HU := yz (an (yy HU) hgq (fun e => by have h1 := Option.some.inj e; omega))
   replace HC : Hid (ap _ W1.heap.size L sa sc) := yz (World.ownsRow.kept (yy HC) hgq (cl (yy HC) hraw (by decide)))
   replace HB := yz (aK (yy HB) hgq (yy HB).size (fun q e => by have h1 := Option.some.inj e; omega))
   clear hraw
   replace HLb := yz (an (yy HLb) hgq (fun e => by have h1 := Option.some.inj e; omega))
   have hzs := hgq.size
   clear hgq y0 y1 y2 y3 z0 z1 z2 z3
   refine hK.out _ _ ?_ (fun hHeld4 => ?_)
   ·exact yy HKS _ (yy HU)
   clear hK K
   generalize ((((V2.setCell ⟨w.heap.size, 0, none⟩ (.int .i64 A)).setCell ⟨w.heap.size, 1, none⟩ (.int .i64 B)).setCell ⟨w.heap.size, 2, none⟩ (.int .i64 C)).setCell ⟨w.heap.size, 3, none⟩ (.int .i64 D)) = X4 at *
   refine wpAnyH_ready (rs := [9]) (by kernel_rfl) (by simp) ?_
   refine (AllReadyH.cons rfl (fun K hK => ?_) AllReadyH.nil)
   go_simp
   refine hK.out _ _ ?_ (fun hHeld5 => ?_)
   ·exact yy HKS _ (yy HU)
   clear hK K
   refine wpAnyH_done (by kernel_rfl) ?_ _
   go_wp2_with fail
   refine bodyPost_ret (v := .tuple #[.slice sa L.length sc, .agg #[.int .i64 A, .int .i64 B, .int .i64 C, .int .i64 D], .int .i64 zz]) (ks _ _ w.heap.size _ _ _ _ _ _ rfl rfl rfl (yy HR)) rfl ⟨L, sa, sc, A, B, C, D, zz, rfl, hll, World.ownsRow.mono (yy HC) (by omega), yy HB⟩
  ·obtain ⟨y0, y1, y2, y3⟩ : V2.cell? ⟨w.heap.size, 0, none⟩ = some (.int .i64 0) ∧ V2.cell? ⟨w.heap.size, 1, none⟩ = some (.int .i64 0) ∧ V2.cell? ⟨w.heap.size, 2, none⟩ = some (.int .i64 0) ∧ V2.cell? ⟨w.heap.size, 3, none⟩ = some (.int .i64 0) := ⟨(yy HR).cell 0 _ rfl, (yy HR).cell 1 _ rfl, (yy HR).cell 2 _ rfl, (yy HR).cell 3 _ rfl⟩
   obtain ⟨z0, z1, z2, z3⟩ : V2.frozen? ⟨w.heap.size, 0, none⟩ = false ∧ V2.frozen? ⟨w.heap.size, 1, none⟩ = false ∧ V2.frozen? ⟨w.heap.size, 2, none⟩ = false ∧ V2.frozen? ⟨w.heap.size, 3, none⟩ = false := ⟨(yy HR).free 0, (yy HR).free 1, (yy HR).free 2, (yy HR).free 3⟩
   have hraw := yy HR
   go_simp
   have hgq := gO V2 w.heap.size (.int .i64 A) (.int .i64 B) (.int .i64 C) (.int .i64 D)
   replace HR := yz (mO (yy HR) (.int .i64 A) (.int .i64 B) (.int .i64 C) (.int .i64 D))
   replace HU := yz (an (yy HU) hgq (fun e => by have h1 := Option.some.inj e; omega))
   replace HC : Hid (ap _ W1.heap.size L sa sc) := yz (World.ownsRow.kept (yy HC) hgq (cl (yy HC) hraw (by decide)))
   replace HB := yz (aK (yy HB) hgq (yy HB).size (fun q e => by have h1 := Option.some.inj e; omega))
   clear hraw
   replace HLb := yz (an (yy HLb) hgq (fun e => by have h1 := Option.some.inj e; omega))
   have hzs := hgq.size
   clear hgq y0 y1 y2 y3 z0 z1 z2 z3
   refine hK.out _ _ ?_ (fun hHeld6 => ?_)
   ·exact yy HKS _ (yy HU)
   clear hK K
   generalize ((((V2.setCell ⟨w.heap.size, 0, none⟩ (.int .i64 A)).setCell ⟨w.heap.size, 1, none⟩ (.int .i64 B)).setCell ⟨w.heap.size, 2, none⟩ (.int .i64 C)).setCell ⟨w.heap.size, 3, none⟩ (.int .i64 D)) = X6 at *
   refine wpAnyH_ready (rs := [6]) (by kernel_rfl) (by simp) ?_
   refine (AllReadyH.cons rfl (fun K hK => ?_) AllReadyH.nil)
   obtain ⟨zz, hzz⟩ := fx (yy HLb) (show m < 7 by omega)
   go_simp
   refine hK.out _ _ ?_ (fun hHeld7 => ?_)
   ·exact yy HKS _ (yy HU)
   clear hK K
   refine wpAnyH_ready (rs := [9]) (by kernel_rfl) (by simp) ?_
   refine (AllReadyH.cons rfl (fun K hK => ?_) AllReadyH.nil)
   go_simp
   refine hK.out _ _ ?_ (fun hHeld8 => ?_)
   ·exact yy HKS _ (yy HU)
   clear hK K
   refine wpAnyH_done (by kernel_rfl) ?_ _
   go_wp2_with fail
   refine bodyPost_ret (v := .tuple #[.slice sa L.length sc, .agg #[.int .i64 A, .int .i64 B, .int .i64 C, .int .i64 D], .int .i64 zz]) (ks _ _ w.heap.size _ _ _ _ _ _ rfl rfl rfl (yy HR)) rfl ⟨L, sa, sc, A, B, C, D, zz, rfl, hll, World.ownsRow.mono (yy HC) (by omega), yy HB⟩
 ·go_simp
  refine (aT (w.heap.size + 1) 7 V0 (yy HS) (by decide)).mono ?_
  rintro e V9 ⟨m, rfl, m0, m7, _, hS7, hg7⟩
  replace m7 := m7 (by decide)
  obtain ⟨m, rfl⟩ := Int.eq_ofNat_of_zero_le m0
  have hm7 : (m : Int) < 7 := by omega
  replace HR := yz (an (yy HR) hg7 hnb)
  replace HU := yz (an (yy HU) hg7 (fun e => by have := Option.some.inj e; omega))
  replace HB := yz (aK (yy HB) hg7 (yy HB).size (fun q e => by have := Option.some.inj e; omega))
  replace HC : Hid (ap _ W1.heap.size L sa sc) := yz (World.ownsRow.kept (yy HC) hg7 (bC (yy HC) hlt))
  replace HS := yz hS7
  have hzv := hg7.size
  clear hS7 hg7
  refine hK.out _ _ ?_ (fun hHeld9 => ?_)
  ·exact yy HKS _ (yy HU)
  clear hK K
  refine ac 7 rfl ?_
  try simp only [Act.put, ah, ai, aj]
  refine wpAnyH_ready (rs := [2, 8]) (by kernel_rfl) (by simp) ?_
  refine (AllReadyH.cons rfl (fun K hK => ?_) (AllReadyH.cons rfl (fun K hK => ?_) AllReadyH.nil))
  ·go_simp
   have hy := am V9 (.cells #[.int .i64 0, .int .i64 50, .int .i64 80, .int .i64 90, .int .i64 100, .int .i64 (-1), .int .i64 101] 2)
   have HLb := yz (bj V9 [.int .i64 0, .int .i64 50, .int .i64 80, .int .i64 90, .int .i64 100, .int .i64 (-1), .int .i64 101] 2)
   have hzl : (V9.alloc (.cells #[.int .i64 0, .int .i64 50, .int .i64 80, .int .i64 90, .int .i64 100, .int .i64 (-1), .int .i64 101] 2)).heap.size = V9.heap.size + 1 := by simp
   replace HR := yz ((yy HR).kept hy)
   replace HU := yz ((yy HU).kept hy)
   replace HC : Hid (ap _ W1.heap.size L sa sc) := yz ((yy HC).kept hy)
   replace HB := yz (ak (yy HB) hy)
   try replace HS := yz ((yy HS).below hy)
   clear hy
   refine hK.out _ _ ?_ (fun hHeld10 => ?_)
   ·exact yy HKS _ (yy HU)
   clear hK K
   refine ac 5 rfl ?_
   try simp only [Act.put, ah, ai, aj]
   refine wpAnyH_ready (rs := [6, 8]) (by kernel_rfl) (by simp) ?_
   refine (AllReadyH.cons rfl (fun K hK => ?_) (AllReadyH.cons rfl (fun K hK => ?_) AllReadyH.nil))
   ·obtain ⟨zz, hzz⟩ := fx (yy HLb) (show m < 7 by omega)
    go_simp
    refine hK.out _ _ ?_ (fun hHeld11 => ?_)
    ·exact yy HKS _ (yy HU)
    clear hK K
    refine wpAnyH_ready (rs := [8]) (by kernel_rfl) (by simp) ?_
    refine (AllReadyH.cons rfl (fun K hK => ?_) AllReadyH.nil)
    obtain ⟨y0, y1, y2, y3⟩ : (V9.alloc (.cells #[.int .i64 0, .int .i64 50, .int .i64 80, .int .i64 90, .int .i64 100, .int .i64 (-1), .int .i64 101] 2)).cell? ⟨w.heap.size, 0, none⟩ = some (.int .i64 0) ∧ (V9.alloc (.cells #[.int .i64 0, .int .i64 50, .int .i64 80, .int .i64 90, .int .i64 100, .int .i64 (-1), .int .i64 101] 2)).cell? ⟨w.heap.size, 1, none⟩ = some (.int .i64 0) ∧ (V9.alloc (.cells #[.int .i64 0, .int .i64 50, .int .i64 80, .int .i64 90, .int .i64 100, .int .i64 (-1), .int .i64 101] 2)).cell? ⟨w.heap.size, 2, none⟩ = some (.int .i64 0) ∧ (V9.alloc (.cells #[.int .i64 0, .int .i64 50, .int .i64 80, .int .i64 90, .int .i64 100, .int .i64 (-1), .int .i64 101] 2)).cell? ⟨w.heap.size, 3, none⟩ = some (.int .i64 0) := ⟨(yy HR).cell 0 _ rfl, (yy HR).cell 1 _ rfl, (yy HR).cell 2 _ rfl, (yy HR).cell 3 _ rfl⟩
    obtain ⟨z0, z1, z2, z3⟩ : (V9.alloc (.cells #[.int .i64 0, .int .i64 50, .int .i64 80, .int .i64 90, .int .i64 100, .int .i64 (-1), .int .i64 101] 2)).frozen? ⟨w.heap.size, 0, none⟩ = false ∧ (V9.alloc (.cells #[.int .i64 0, .int .i64 50, .int .i64 80, .int .i64 90, .int .i64 100, .int .i64 (-1), .int .i64 101] 2)).frozen? ⟨w.heap.size, 1, none⟩ = false ∧ (V9.alloc (.cells #[.int .i64 0, .int .i64 50, .int .i64 80, .int .i64 90, .int .i64 100, .int .i64 (-1), .int .i64 101] 2)).frozen? ⟨w.heap.size, 2, none⟩ = false ∧ (V9.alloc (.cells #[.int .i64 0, .int .i64 50, .int .i64 80, .int .i64 90, .int .i64 100, .int .i64 (-1), .int .i64 101] 2)).frozen? ⟨w.heap.size, 3, none⟩ = false := ⟨(yy HR).free 0, (yy HR).free 1, (yy HR).free 2, (yy HR).free 3⟩
    have hraw := yy HR
    go_simp
    have hgq := gO (V9.alloc (.cells #[.int .i64 0, .int .i64 50, .int .i64 80, .int .i64 90, .int .i64 100, .int .i64 (-1), .int .i64 101] 2)) w.heap.size (.int .i64 A) (.int .i64 B) (.int .i64 C) (.int .i64 D)
    replace HR := yz (mO (yy HR) (.int .i64 A) (.int .i64 B) (.int .i64 C) (.int .i64 D))
    replace HU := yz (an (yy HU) hgq (fun e => by have h1 := Option.some.inj e; omega))
    replace HC : Hid (ap _ W1.heap.size L sa sc) := yz (World.ownsRow.kept (yy HC) hgq (cl (yy HC) hraw (by decide)))
    replace HB := yz (aK (yy HB) hgq (yy HB).size (fun q e => by have h1 := Option.some.inj e; omega))
    clear hraw
    replace HLb := yz (an (yy HLb) hgq (fun e => by have h1 := Option.some.inj e; omega))
    have hzs := hgq.size
    clear hgq y0 y1 y2 y3 z0 z1 z2 z3
    refine hK.out _ _ ?_ (fun hHeld12 => ?_)
    ·exact yy HKS _ (yy HU)
    clear hK K
    generalize (((((V9.alloc (.cells #[.int .i64 0, .int .i64 50, .int .i64 80, .int .i64 90, .int .i64 100, .int .i64 (-1), .int .i64 101] 2)).setCell ⟨w.heap.size, 0, none⟩ (.int .i64 A)).setCell ⟨w.heap.size, 1, none⟩ (.int .i64 B)).setCell ⟨w.heap.size, 2, none⟩ (.int .i64 C)).setCell ⟨w.heap.size, 3, none⟩ (.int .i64 D)) = X12 at *
    refine wpAnyH_ready (rs := [9]) (by kernel_rfl) (by simp) ?_
    refine (AllReadyH.cons rfl (fun K hK => ?_) AllReadyH.nil)
    go_simp
    refine hK.out _ _ ?_ (fun hHeld13 => ?_)
    ·exact yy HKS _ (yy HU)
    clear hK K
    refine wpAnyH_done (by kernel_rfl) ?_ _
    go_wp2_with fail
    refine bodyPost_ret (v := .tuple #[.slice sa L.length sc, .agg #[.int .i64 A, .int .i64 B, .int .i64 C, .int .i64 D], .int .i64 zz]) (ks _ _ w.heap.size _ _ _ _ _ _ rfl rfl rfl (yy HR)) rfl ⟨L, sa, sc, A, B, C, D, zz, rfl, hll, World.ownsRow.mono (yy HC) (by omega), yy HB⟩
   ·obtain ⟨y0, y1, y2, y3⟩ : (V9.alloc (.cells #[.int .i64 0, .int .i64 50, .int .i64 80, .int .i64 90, .int .i64 100, .int .i64 (-1), .int .i64 101] 2)).cell? ⟨w.heap.size, 0, none⟩ = some (.int .i64 0) ∧ (V9.alloc (.cells #[.int .i64 0, .int .i64 50, .int .i64 80, .int .i64 90, .int .i64 100, .int .i64 (-1), .int .i64 101] 2)).cell? ⟨w.heap.size, 1, none⟩ = some (.int .i64 0) ∧ (V9.alloc (.cells #[.int .i64 0, .int .i64 50, .int .i64 80, .int .i64 90, .int .i64 100, .int .i64 (-1), .int .i64 101] 2)).cell? ⟨w.heap.size, 2, none⟩ = some (.int .i64 0) ∧ (V9.alloc (.cells #[.int .i64 0, .int .i64 50, .int .i64 80, .int .i64 90, .int .i64 100, .int .i64 (-1), .int .i64 101] 2)).cell? ⟨w.heap.size, 3, none⟩ = some (.int .i64 0) := ⟨(yy HR).cell 0 _ rfl, (yy HR).cell 1 _ rfl, (yy HR).cell 2 _ rfl, (yy HR).cell 3 _ rfl⟩
    obtain ⟨z0, z1, z2, z3⟩ : (V9.alloc (.cells #[.int .i64 0, .int .i64 50, .int .i64 80, .int .i64 90, .int .i64 100, .int .i64 (-1), .int .i64 101] 2)).frozen? ⟨w.heap.size, 0, none⟩ = false ∧ (V9.alloc (.cells #[.int .i64 0, .int .i64 50, .int .i64 80, .int .i64 90, .int .i64 100, .int .i64 (-1), .int .i64 101] 2)).frozen? ⟨w.heap.size, 1, none⟩ = false ∧ (V9.alloc (.cells #[.int .i64 0, .int .i64 50, .int .i64 80, .int .i64 90, .int .i64 100, .int .i64 (-1), .int .i64 101] 2)).frozen? ⟨w.heap.size, 2, none⟩ = false ∧ (V9.alloc (.cells #[.int .i64 0, .int .i64 50, .int .i64 80, .int .i64 90, .int .i64 100, .int .i64 (-1), .int .i64 101] 2)).frozen? ⟨w.heap.size, 3, none⟩ = false := ⟨(yy HR).free 0, (yy HR).free 1, (yy HR).free 2, (yy HR).free 3⟩
    have hraw := yy HR
    go_simp
    have hgq := gO (V9.alloc (.cells #[.int .i64 0, .int .i64 50, .int .i64 80, .int .i64 90, .int .i64 100, .int .i64 (-1), .int .i64 101] 2)) w.heap.size (.int .i64 A) (.int .i64 B) (.int .i64 C) (.int .i64 D)
    replace HR := yz (mO (yy HR) (.int .i64 A) (.int .i64 B) (.int .i64 C) (.int .i64 D))
    replace HU := yz (an (yy HU) hgq (fun e => by have h1 := Option.some.inj e; omega))
    replace HC : Hid (ap _ W1.heap.size L sa sc) := yz (World.ownsRow.kept (yy HC) hgq (cl (yy HC) hraw (by decide)))
    replace HB := yz (aK (yy HB) hgq (yy HB).size (fun q e => by have h1 := Option.some.inj e; omega))
    clear hraw
    replace HLb := yz (an (yy HLb) hgq (fun e => by have h1 := Option.some.inj e; omega))
    have hzs := hgq.size
    clear hgq y0 y1 y2 y3 z0 z1 z2 z3
    refine hK.out _ _ ?_ (fun hHeld14 => ?_)
    ·exact yy HKS _ (yy HU)
    clear hK K
    generalize (((((V9.alloc (.cells #[.int .i64 0, .int .i64 50, .int .i64 80, .int .i64 90, .int .i64 100, .int .i64 (-1), .int .i64 101] 2)).setCell ⟨w.heap.size, 0, none⟩ (.int .i64 A)).setCell ⟨w.heap.size, 1, none⟩ (.int .i64 B)).setCell ⟨w.heap.size, 2, none⟩ (.int .i64 C)).setCell ⟨w.heap.size, 3, none⟩ (.int .i64 D)) = X14 at *
    refine wpAnyH_ready (rs := [6]) (by kernel_rfl) (by simp) ?_
    refine (AllReadyH.cons rfl (fun K hK => ?_) AllReadyH.nil)
    obtain ⟨zz, hzz⟩ := fx (yy HLb) (show m < 7 by omega)
    go_simp
    refine hK.out _ _ ?_ (fun hHeld15 => ?_)
    ·exact yy HKS _ (yy HU)
    clear hK K
    refine wpAnyH_ready (rs := [9]) (by kernel_rfl) (by simp) ?_
    refine (AllReadyH.cons rfl (fun K hK => ?_) AllReadyH.nil)
    go_simp
    refine hK.out _ _ ?_ (fun hHeld16 => ?_)
    ·exact yy HKS _ (yy HU)
    clear hK K
    refine wpAnyH_done (by kernel_rfl) ?_ _
    go_wp2_with fail
    refine bodyPost_ret (v := .tuple #[.slice sa L.length sc, .agg #[.int .i64 A, .int .i64 B, .int .i64 C, .int .i64 D], .int .i64 zz]) (ks _ _ w.heap.size _ _ _ _ _ _ rfl rfl rfl (yy HR)) rfl ⟨L, sa, sc, A, B, C, D, zz, rfl, hll, World.ownsRow.mono (yy HC) (by omega), yy HB⟩
  ·obtain ⟨y0, y1, y2, y3⟩ : V9.cell? ⟨w.heap.size, 0, none⟩ = some (.int .i64 0) ∧ V9.cell? ⟨w.heap.size, 1, none⟩ = some (.int .i64 0) ∧ V9.cell? ⟨w.heap.size, 2, none⟩ = some (.int .i64 0) ∧ V9.cell? ⟨w.heap.size, 3, none⟩ = some (.int .i64 0) := ⟨(yy HR).cell 0 _ rfl, (yy HR).cell 1 _ rfl, (yy HR).cell 2 _ rfl, (yy HR).cell 3 _ rfl⟩
   obtain ⟨z0, z1, z2, z3⟩ : V9.frozen? ⟨w.heap.size, 0, none⟩ = false ∧ V9.frozen? ⟨w.heap.size, 1, none⟩ = false ∧ V9.frozen? ⟨w.heap.size, 2, none⟩ = false ∧ V9.frozen? ⟨w.heap.size, 3, none⟩ = false := ⟨(yy HR).free 0, (yy HR).free 1, (yy HR).free 2, (yy HR).free 3⟩
   have hraw := yy HR
   go_simp
   have hgq := gO V9 w.heap.size (.int .i64 A) (.int .i64 B) (.int .i64 C) (.int .i64 D)
   replace HR := yz (mO (yy HR) (.int .i64 A) (.int .i64 B) (.int .i64 C) (.int .i64 D))
   replace HU := yz (an (yy HU) hgq (fun e => by have h1 := Option.some.inj e; omega))
   replace HC : Hid (ap _ W1.heap.size L sa sc) := yz (World.ownsRow.kept (yy HC) hgq (cl (yy HC) hraw (by decide)))
   replace HB := yz (aK (yy HB) hgq (yy HB).size (fun q e => by have h1 := Option.some.inj e; omega))
   clear hraw
   have hzs := hgq.size
   clear hgq y0 y1 y2 y3 z0 z1 z2 z3
   refine hK.out _ _ ?_ (fun hHeld17 => ?_)
   ·exact yy HKS _ (yy HU)
   clear hK K
   generalize ((((V9.setCell ⟨w.heap.size, 0, none⟩ (.int .i64 A)).setCell ⟨w.heap.size, 1, none⟩ (.int .i64 B)).setCell ⟨w.heap.size, 2, none⟩ (.int .i64 C)).setCell ⟨w.heap.size, 3, none⟩ (.int .i64 D)) = X17 at *
   refine wpAnyH_ready (rs := [2]) (by kernel_rfl) (by simp) ?_
   refine (AllReadyH.cons rfl (fun K hK => ?_) AllReadyH.nil)
   go_simp
   have hy := am X17 (.cells #[.int .i64 0, .int .i64 50, .int .i64 80, .int .i64 90, .int .i64 100, .int .i64 (-1), .int .i64 101] 2)
   have HLb := yz (bj X17 [.int .i64 0, .int .i64 50, .int .i64 80, .int .i64 90, .int .i64 100, .int .i64 (-1), .int .i64 101] 2)
   have hzl : (X17.alloc (.cells #[.int .i64 0, .int .i64 50, .int .i64 80, .int .i64 90, .int .i64 100, .int .i64 (-1), .int .i64 101] 2)).heap.size = X17.heap.size + 1 := by simp
   replace HR := yz ((yy HR).kept hy)
   replace HU := yz ((yy HU).kept hy)
   replace HC : Hid (ap _ W1.heap.size L sa sc) := yz ((yy HC).kept hy)
   replace HB := yz (ak (yy HB) hy)
   try replace HS := yz ((yy HS).below hy)
   clear hy
   refine hK.out _ _ ?_ (fun hHeld18 => ?_)
   ·exact yy HKS _ (yy HU)
   clear hK K
   refine ac 5 rfl ?_
   try simp only [Act.put, ah, ai, aj]
   refine wpAnyH_ready (rs := [6]) (by kernel_rfl) (by simp) ?_
   refine (AllReadyH.cons rfl (fun K hK => ?_) AllReadyH.nil)
   obtain ⟨zz, hzz⟩ := fx (yy HLb) (show m < 7 by omega)
   go_simp
   refine hK.out _ _ ?_ (fun hHeld19 => ?_)
   ·exact yy HKS _ (yy HU)
   clear hK K
   refine wpAnyH_ready (rs := [9]) (by kernel_rfl) (by simp) ?_
   refine (AllReadyH.cons rfl (fun K hK => ?_) AllReadyH.nil)
   go_simp
   refine hK.out _ _ ?_ (fun hHeld20 => ?_)
   ·exact yy HKS _ (yy HU)
   clear hK K
   refine wpAnyH_done (by kernel_rfl) ?_ _
   go_wp2_with fail
   refine bodyPost_ret (v := .tuple #[.slice sa L.length sc, .agg #[.int .i64 A, .int .i64 B, .int .i64 C, .int .i64 D], .int .i64 zz]) (ks _ _ w.heap.size _ _ _ _ _ _ rfl rfl rfl (yy HR)) rfl ⟨L, sa, sc, A, B, C, D, zz, rfl, hll, World.ownsRow.mono (yy HC) (by omega), yy HB⟩
end
section
end
section
open Go.RowKit Go.Sort
theorem it (ca : Option Addr) (len cc : Nat) (w : World) (hl : len ≤ 1048576) (hR : Row w ca len w.heap.size) :
  Calls Tryz.prog 4 #[.slice ca len cc] w fun e w' => ∃ (L : List St) (sa : Option Addr) (sc : Nat), e = .returned (.slice sa L.length sc) ∧ L.length ≤ 13 ∧ ap w' w.heap.size L sa sc ∧ Below w.heap.size w w' := by
 have cS := yz (ex ca len cc w hl hR)
 clear hR
 go_enter Tryz.func4, Tryz.ntmps4
 go_wp2_with fail
 refine (yy cS).mono ?_
 rintro e W1 ⟨rfl, hS1, hx⟩
 have HB := yz hx
 have HS := yz hS1
 have hlt := hS1.lt
 clear hx hS1 cS
 go_wp2_with fail
 refine (el w.heap.size W1 (yy HS)).mono ?_
 rintro e W2 ⟨L, sa, sc, rfl, hll, hK⟩
 replace HB := yz (aK (yy HB) hK.gr (yy HB).size (fun q e => by have := Option.some.inj e; omega))
 have HC := yz hK.row
 replace HS := yz hK.src
 have hz2 := hK.gr.size
 clear hK
 go_wp2_with fail
 go_ret
 exact ⟨L, sa, sc, rfl, hll, World.ownsRow.mono (yy HC) (by omega), yy HB⟩
theorem re (x : ByteArray) (c : Int) (W : World) : (Instr.field 68 (.agg #[.string x, .int .i64 0, .int .i64 c]) 0).run Tryz.prog W = .ok (.string x) W := by kernel_rfl
theorem lK (L : List St) (h : L.length ≤ 13) : (dO L).size ≤ 1000 := by
 unfold dO
 split
 ·have hz := cm L L.length
  rw [fa (by omega), ByteArray.size_append, dC]
  omega
 ·exact Nat.zero_le _
theorem qI (t : ByteArray) : (unT t).size ≤ t.size := by
 unfold unT
 split
 ·simp [ByteArray.size_extract]
 ·exact Nat.zero_le _
theorem mx (t : ByteArray) : (aL t).size ≤ t.size + 4 := by
 unfold aL
 split
 ·exact Nat.zero_le _
 ·rw [ByteArray.size_append, dC]; omega
theorem jn (ca : Option Addr) (len cc : Nat) (w : World) (hl : len ≤ 1048576) (hR : Row w ca len w.heap.size) :
  Calls Tryz.prog 6 #[.slice ca len cc] w fun e w' => ∃ u : ByteArray, e = .returned (.string u) ∧ u.size ≤ 30000 ∧ Below w.heap.size w w' := by
 have cS := yz (ex ca len cc w hl hR)
 clear hR
 go_enter Tryz.func6, Tryz.ntmps6
 go_wp2_with fail
 refine (yy cS).mono ?_
 rintro e W1 ⟨rfl, hS1, hx⟩
 have HB := yz hx
 have HS := yz hS1
 have hlt := hS1.lt
 clear hx hS1 cS
 go_wp2_with fail
 refine (el w.heap.size W1 (yy HS)).mono ?_
 rintro e W2 ⟨L, sa, sc, rfl, hll, hK⟩
 replace HB := yz (aK (yy HB) hK.gr (yy HB).size (fun q e => by have := Option.some.inj e; omega))
 have HC := yz hK.row
 replace HS := yz hK.src
 have hz2 := hK.gr.size
 clear hK
 go_wp2_with fail
 refine (dE L sa sc W2 (by omega) (yy HC).stars).mono ?_
 rintro e W3 ⟨rfl, hx⟩
 replace HB := yz (ak (yy HB) hx)
 replace HS := yz ((yy HS).below hx)
 have hz3 := hx.size
 have hts := lK L (by omega)
 clear hx HC
 generalize dO L = t at *
 go_wp2_with fail
 refine (aT w.heap.size 5 W3 (yy HS) (by omega)).mono ?_
 rintro e W4 ⟨k, rfl, k0, k5, _, hS4, hg4⟩
 replace k5 := k5 (by decide)
 replace HB := yz (aK (yy HB) hg4 (yy HB).size (fun q e => by have := Option.some.inj e; omega))
 replace HS := yz hS4
 clear hS4 hg4
 rcases (by omega : k = 0 ∨ k = 1 ∨ k = 2 ∨ k = 3 ∨ k = 4) with rfl | rfl | rfl | rfl | rfl
 ·go_wp2_with fail
  refine (kF w.heap.size t W4 (yy HS) (by omega)).mono ?_
  rintro e W5 ⟨r, rfl, hr, hS5, hg5⟩
  replace HB := yz (aK (yy HB) hg5 (yy HB).size (fun q e => by have := Option.some.inj e; omega))
  replace HS := yz hS5
  clear hS5 hg5
  go_wp2_with fail
  go_ret
  exact ⟨_, rfl, by omega, yy HB⟩
 ·have h1 : ((t.size : Nat) : Int) + 1 ≤ 9223372036854775807 := by omega
  go_wp2_with fail
  refine (aT w.heap.size (((t.size : Nat) : Int) + 1) W4 (yy HS) (by omega)).mono ?_
  rintro e W5 ⟨j, rfl, j0, j1, j2, hS5, hg5⟩
  replace HB := yz (aK (yy HB) hg5 (yy HB).size (fun q e => by have := Option.some.inj e; omega))
  clear hS5 hg5
  obtain ⟨j, rfl⟩ := Int.eq_ofNat_of_zero_le j0
  have hj : j ≤ t.size := by
   by_cases h : (t.size : Int) + 1 ≤ 1
   ·have := j2 h; omega
   ·have := j1 (by omega); omega
  have hj2 : (j : Int) ≤ (t.size : Int) := by omega
  clear j1 j2
  go_wp2_with fail
  go_ret
  exact ⟨_, rfl, by simp [ByteArray.size_extract]; omega, yy HB⟩
 ·go_wp2_with fail
  refine (fz t W4 (by omega)).mono ?_
  rintro e W5 ⟨rfl, hx⟩
  replace HB := yz (ak (yy HB) hx)
  replace HS := yz ((yy HS).below hx)
  have hut := qI t
  clear hx
  generalize unT t = x at *
  generalize unC t = xc at *
  have hfd := re x xc
  go_wp2_with fail
  refine (kF w.heap.size x W5 (yy HS) (by omega)).mono ?_
  rintro e W6 ⟨r, rfl, hr, hS5, hg5⟩
  replace HB := yz (aK (yy HB) hg5 (yy HB).size (fun q e => by have := Option.some.inj e; omega))
  replace HS := yz hS5
  clear hS5 hg5
  go_wp2_with fail
  refine (ib r W6 (by omega)).mono ?_
  rintro e W7 ⟨rfl, hx⟩
  replace HB := yz (ak (yy HB) hx)
  have hss := mx r
  clear hx
  generalize aL r = y at *
  go_wp2_with fail
  go_ret
  exact ⟨_, rfl, by omega, yy HB⟩
 ·go_wp2_with fail
  go_ret
  exact ⟨_, rfl, by omega, yy HB⟩
 ·go_wp2_with fail
  go_ret
  exact ⟨_, rfl, by omega, yy HB⟩
theorem pC {V : World} {lb m : Nat} (h : Blk V lb [.int .i64 1, .int .i64 3, .int .i64 10, .int .i64 12, .int .i64 0] 2) (hm : m < 5) : ∃ z : Int, V.cell? ⟨lb, m, none⟩ = some (.int .i64 z) := by
 rcases (by omega : m = 0 ∨ m = 1 ∨ m = 2 ∨ m = 3 ∨ m = 4) with rfl | rfl | rfl | rfl | rfl
 ·exact ⟨_, h.cell 0 _ rfl⟩
 ·exact ⟨_, h.cell 1 _ rfl⟩
 ·exact ⟨_, h.cell 2 _ rfl⟩
 ·exact ⟨_, h.cell 3 _ rfl⟩
 ·exact ⟨_, h.cell 4 _ rfl⟩
theorem jV (ca : Option Addr) (len cc : Nat) (w : World) (hl : len ≤ 1048576) (hR : Row w ca len w.heap.size) :
  Calls Tryz.prog 11 #[.slice ca len cc] w fun e w' => ∃ (L : List St) (sa : Option Addr) (sc : Nat) (id : Int), e = .returned (.tuple #[.slice sa L.length sc, .int .i64 id]) ∧ L.length ≤ 13 ∧ ap w' w.heap.size L sa sc ∧ Below w.heap.size w w' := by
 have cS := yz (ex ca len cc w hl hR)
 clear hR
 go_enter Tryz.func11, Tryz.ntmps11
 go_wp2_with fail
 refine (yy cS).mono ?_
 rintro e W1 ⟨rfl, hS1, hx⟩
 have HB := yz hx
 have HS := yz hS1
 have hlt := hS1.lt
 clear hx hS1 cS
 go_wp2_with fail
 refine (el w.heap.size W1 (yy HS)).mono ?_
 rintro e W2 ⟨L, sa, sc, rfl, hll, hK⟩
 replace HB := yz (aK (yy HB) hK.gr (yy HB).size (fun q e => by have := Option.some.inj e; omega))
 have HC := yz hK.row
 replace HS := yz hK.src
 have hz2 := hK.gr.size
 clear hK
 go_upto_region 3 with fail
 have hz3 : w.heap.size < W2.heap.size := by omega
 refine wp_region_held_drew (S := (fun _ => True)) (by kernel_rfl) trivial (fun hHeld => ?_)
 replace HC : Hid (ap _ W1.heap.size L sa sc) := yz ((yy HC).kept (Below.refl W2.heap.size W2).drew)
 replace HS := yz ((yy HS).below (Below.refl W2.heap.size W2).drew)
 replace HB := yz (ak (yy HB) (Below.refl W2.heap.size W2).drew)
 have hz5 : w.heap.size < W2.drew.heap.size := hz3
 obtain ⟨V0, HYY⟩ : ∃ YY, YY = W2.drew := ⟨_, rfl⟩
 rw [← HYY] at HC HS HB hz5 ⊢
 clear HYY
 refine ac 0 rfl ?_
 try simp only [Act.put, ah, ai, aj]
 refine ac 2 rfl ?_
 try simp only [Act.put, ah, ai, aj]
 refine wpAnyH_ready (rs := [1, 3]) (by kernel_rfl) (by simp) ?_
 refine (AllReadyH.cons rfl (fun K hK => ?_) (AllReadyH.cons rfl (fun K hK => ?_) AllReadyH.nil))
 ·go_simp
  have hy := am V0 (.cells #[.int .i64 1, .int .i64 3, .int .i64 10, .int .i64 12, .int .i64 0] 2)
  have HLb := yz (bj V0 [.int .i64 1, .int .i64 3, .int .i64 10, .int .i64 12, .int .i64 0] 2)
  have hzl : (V0.alloc (.cells #[.int .i64 1, .int .i64 3, .int .i64 10, .int .i64 12, .int .i64 0] 2)).heap.size = V0.heap.size + 1 := by simp
  replace HC : Hid (ap _ W1.heap.size L sa sc) := yz ((yy HC).kept hy)
  replace HB := yz (ak (yy HB) hy)
  replace HS := yz ((yy HS).below hy)
  clear hy
  refine hK.out _ _ ?_ (fun hHeld1 => ?_)
  ·exact trivial
  clear hK K
  refine wpAnyH_ready (rs := [3]) (by kernel_rfl) (by simp) ?_
  refine (AllReadyH.cons rfl (fun K hK => ?_) AllReadyH.nil)
  go_simp
  refine (aT w.heap.size 5 (V0.alloc (.cells #[.int .i64 1, .int .i64 3, .int .i64 10, .int .i64 12, .int .i64 0] 2)) (yy HS) (by decide)).mono ?_
  rintro e V2 ⟨m, rfl, m0, m5, _, hS7, hg7⟩
  replace m5 := m5 (by decide)
  obtain ⟨m, rfl⟩ := Int.eq_ofNat_of_zero_le m0
  have hm5 : (m : Int) < 5 := by omega
  replace HB := yz (aK (yy HB) hg7 (yy HB).size (fun q e => by have := Option.some.inj e; omega))
  replace HC : Hid (ap _ W1.heap.size L sa sc) := yz (World.ownsRow.kept (yy HC) hg7 (bC (yy HC) hlt))
  replace HLb := yz (an (yy HLb) hg7 (fun e => by have := Option.some.inj e; omega))
  replace HS := yz hS7
  have hzv := hg7.size
  clear hS7 hg7
  refine hK.out _ _ ?_ (fun hHeld2 => ?_)
  ·exact trivial
  clear hK K
  refine ac 4 rfl ?_
  try simp only [Act.put, ah, ai, aj]
  refine ac 6 rfl ?_
  try simp only [Act.put, ah, ai, aj]
  refine wpAnyH_ready (rs := [5]) (by kernel_rfl) (by simp) ?_
  refine (AllReadyH.cons rfl (fun K hK => ?_) AllReadyH.nil)
  obtain ⟨zz, hzz⟩ := pC (yy HLb) (show m < 5 by omega)
  go_simp
  refine hK.out _ _ ?_ (fun hHeld3 => ?_)
  ·exact trivial
  clear hK K
  refine wpAnyH_ready (rs := [7]) (by kernel_rfl) (by simp) ?_
  refine (AllReadyH.cons rfl (fun K hK => ?_) AllReadyH.nil)
  go_simp
  refine hK.out _ _ ?_ (fun hHeld4 => ?_)
  ·exact trivial
  clear hK K
  refine wpAnyH_done (by kernel_rfl) ?_ _
  go_wp2_with fail
  go_ret2
  exact ⟨L, sa, sc, zz, rfl, hll, World.ownsRow.mono (yy HC) (by omega), yy HB⟩
 ·go_simp
  refine (aT w.heap.size 5 V0 (yy HS) (by decide)).mono ?_
  rintro e V5 ⟨m, rfl, m0, m5, _, hS7, hg7⟩
  replace m5 := m5 (by decide)
  obtain ⟨m, rfl⟩ := Int.eq_ofNat_of_zero_le m0
  have hm5 : (m : Int) < 5 := by omega
  replace HB := yz (aK (yy HB) hg7 (yy HB).size (fun q e => by have := Option.some.inj e; omega))
  replace HC : Hid (ap _ W1.heap.size L sa sc) := yz (World.ownsRow.kept (yy HC) hg7 (bC (yy HC) hlt))
  replace HS := yz hS7
  have hzv := hg7.size
  clear hS7 hg7
  refine hK.out _ _ ?_ (fun hHeld5 => ?_)
  ·exact trivial
  clear hK K
  refine ac 6 rfl ?_
  try simp only [Act.put, ah, ai, aj]
  refine wpAnyH_ready (rs := [1]) (by kernel_rfl) (by simp) ?_
  refine (AllReadyH.cons rfl (fun K hK => ?_) AllReadyH.nil)
  go_simp
  have hy := am V5 (.cells #[.int .i64 1, .int .i64 3, .int .i64 10, .int .i64 12, .int .i64 0] 2)
  have HLb := yz (bj V5 [.int .i64 1, .int .i64 3, .int .i64 10, .int .i64 12, .int .i64 0] 2)
  have hzl : (V5.alloc (.cells #[.int .i64 1, .int .i64 3, .int .i64 10, .int .i64 12, .int .i64 0] 2)).heap.size = V5.heap.size + 1 := by simp
  replace HC : Hid (ap _ W1.heap.size L sa sc) := yz ((yy HC).kept hy)
  replace HB := yz (ak (yy HB) hy)
  replace HS := yz ((yy HS).below hy)
  clear hy
  refine hK.out _ _ ?_ (fun hHeld6 => ?_)
  ·exact trivial
  clear hK K
  refine ac 4 rfl ?_
  try simp only [Act.put, ah, ai, aj]
  refine wpAnyH_ready (rs := [5]) (by kernel_rfl) (by simp) ?_
  refine (AllReadyH.cons rfl (fun K hK => ?_) AllReadyH.nil)
  obtain ⟨zz, hzz⟩ := pC (yy HLb) (show m < 5 by omega)
  go_simp
  refine hK.out _ _ ?_ (fun hHeld7 => ?_)
  ·exact trivial
  clear hK K
  refine wpAnyH_ready (rs := [7]) (by kernel_rfl) (by simp) ?_
  refine (AllReadyH.cons rfl (fun K hK => ?_) AllReadyH.nil)
  go_simp
  refine hK.out _ _ ?_ (fun hHeld8 => ?_)
  ·exact trivial
  clear hK K
  refine wpAnyH_done (by kernel_rfl) ?_ _
  go_wp2_with fail
  go_ret2
  exact ⟨L, sa, sc, zz, rfl, hll, World.ownsRow.mono (yy HC) (by omega), yy HB⟩
end
end Go.Proofs.YthoiooefclbecaaGreatDoor
