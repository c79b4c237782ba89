/- Several texts in one: InE. -/
import Derived.Test.YtoakkmjcbnfljaaGreatDoorQFnIdentOwn42
import Derived.Test.YtoakkmjcbnfljaaGreatDoorQFnIdentOwn1
namespace Go.Proofs.YtoakkmjcbnfljaaGreatDoor
set_option linter.unusedVariables false
set_option linter.unusedSimpArgs false
set_option maxRecDepth 100000
set_option maxHeartbeats 8000000
section
open Go.RowKit Go.Sort
theorem lp (T : Array Value) (X : World) (b : Nat) (v0 v1 v2 v3 x y : Value) (hT2 : T.getD 2 undef = x) (hT : T.getD 3 undef = .pointer (some ⟨b, 0, none⟩)) (hT4 : T.getD 4 undef = y) (h : Blk X b [v0, v1, v2, v3] 34) : (results Tryz.f20 T).run Tryz.prog X = .ok (.tuple #[x, .agg #[v0, v1, v2, v3], y]) X := by
 obtain ⟨h0, h1, h2, h3⟩ := pu (h)
 simp only [Array.getD_eq_getD_getElem?] at hT hT2 hT4
 simp [results, Tryz.results20, go_sem, hT, hT2, hT4, h0, h1, h2, h3]
theorem gt {V : World} {lb m : Nat} (h : Blk V lb [.int .i64 0, .int .i64 50, .int .i64 80, .int .i64 90, .int .i64 100, .int .i64 (-1), .int .i64 101] 2) (hm : m < 7) : ∃ z : Int, V.cell? ⟨lb, m, none⟩ = some (.int .i64 z) := by
 rcases (by omega : m = 0 ∨ m = 1 ∨ m = 2 ∨ m = 3 ∨ m = 4 ∨ m = 5 ∨ m = 6) with rfl | rfl | rfl | rfl | rfl | rfl | rfl
 ·exact ⟨_, h.cell 0 _ rfl⟩
 ·exact ⟨_, h.cell 1 _ rfl⟩
 ·exact ⟨_, h.cell 2 _ rfl⟩
 ·exact ⟨_, h.cell 3 _ rfl⟩
 ·exact ⟨_, h.cell 4 _ rfl⟩
 ·exact ⟨_, h.cell 5 _ rfl⟩
 ·exact ⟨_, h.cell 6 _ rfl⟩
theorem nc (ca : Option Addr) (len cc : Nat) (w : World) (hl : len ≤ 1048576) (hR : Row w ca len w.heap.size) :
  Calls Tryz.prog 20 #[.slice ca len cc] w fun e w' => ∃ (L : List St) (sa : Option Addr) (sc : Nat) (A B C D cone : Int), e = .returned (.tuple #[.slice sa L.length sc, .agg #[.int .i64 A, .int .i64 B, .int .i64 C, .int .i64 D], .int .i64 cone]) ∧ L.length ≤ 13 ∧ aE w' w.heap.size L sa sc ∧ Below w.heap.size w w' := by
 have Z := ak w (.cells #[.int .i64 0, .int .i64 0, .int .i64 0, .int .i64 0] 34)
 have HR := yz (aO w [.int .i64 0, .int .i64 0, .int .i64 0, .int .i64 0] 34)
 have hz : (w.alloc (.cells #[.int .i64 0, .int .i64 0, .int .i64 0, .int .i64 0] 34)).heap.size = w.heap.size + 1 := by simp
 have cS := yz (fL ca len cc (w.alloc (.cells #[.int .i64 0, .int .i64 0, .int .i64 0, .int .i64 0] 34)) hl (hR.upI Z.size Z.block))
 have HB := yz Z
 rw [hz] at cS
 clear hR Z
 go_enter Tryz.func20, Tryz.ntmps20
 go_upto_region 1 with fail
 generalize w.alloc (.cells #[.int .i64 0, .int .i64 0, .int .i64 0, .int .i64 0] 34) = W0 at *
 go_wp2_with fail
 refine (yy cS).mono ?_
 rintro e W1 ⟨rfl, hS1, hx⟩
 rw [← hz] at hx
 replace HR := yz ((yy HR).kept hx)
 replace HB := yz (aj (yy HB) hx)
 have HS1 := yz hS1
 have hlt : w.heap.size + 1 < W1.heap.size := hS1.lt
 clear hx hS1 cS
 have hnb : some w.heap.size ≠ some (w.heap.size + 1) := fun e => by have := Option.some.inj e; omega
 go_wp2_with fail
 refine (lc (w.heap.size + 1) W1 (yy HS1)).mono ?_
 rintro e W2 ⟨L, sa, sc, rfl, hll, hK⟩
 replace HR := yz (aG (yy HR) hK.gr hnb)
 replace HB := yz (bJ (yy HB) hK.gr (yy HB).size (fun q e => by have := Option.some.inj e; omega))
 have HC := yz hK.row
 have HS := yz hK.src
 have hz1 := hK.gr.size
 clear hK HS1
 go_wp2_with fail
 refine (gk (w.heap.size + 1) W2 (yy HS)).mono ?_
 rintro e W3 ⟨A, B, C, D, rfl, hS3, hg3⟩
 replace HR := yz (aG (yy HR) hg3 hnb)
 replace HB := yz (bJ (yy HB) hg3 (yy HB).size (fun q e => by have := Option.some.inj e; omega))
 replace HC : Hid (aE W3 W1.heap.size L sa sc) := yz (World.ownsRow.kept (yy HC) hg3 (ed (yy HC) hlt))
 replace HS := yz hS3
 have hz3 := hg3.size
 clear hS3 hg3
 have hy := ak W3 (.cells #[.int .i64 A, .int .i64 B, .int .i64 C, .int .i64 D] 34)
 have HU := yz (aO W3 [.int .i64 A, .int .i64 B, .int .i64 C, .int .i64 D] 34)
 replace HR := yz ((yy HR).kept hy)
 replace HB := yz (aj (yy HB) hy)
 replace HC : Hid (aE _ W1.heap.size L sa sc) := yz ((yy HC).kept hy)
 try replace HS := yz ((yy HS).below hy)
 have hz4 : (W3.alloc (.cells #[.int .i64 A, .int .i64 B, .int .i64 C, .int .i64 D] 34)).heap.size = W3.heap.size + 1 := by simp
 clear hy
 go_upto_region 4 with fail
 generalize W3.alloc (.cells #[.int .i64 A, .int .i64 B, .int .i64 C, .int .i64 D] 34) = W4 at *
 generalize W3.heap.size = ub at *
 have HKS : Hid (∀ w' : World, Blk w' ub [.int .i64 A, .int .i64 B, .int .i64 C, .int .i64 D] 34 → w'.cell? ⟨ub, 0, none⟩ = some (.int .i64 A) ∧ w'.cell? ⟨ub, 1, none⟩ = some (.int .i64 B) ∧ w'.cell? ⟨ub, 2, none⟩ = some (.int .i64 C) ∧ w'.cell? ⟨ub, 3, none⟩ = some (.int .i64 D)) := yz (fun w' hu => ⟨hu.cell 0 _ rfl, hu.cell 1 _ rfl, hu.cell 2 _ rfl, hu.cell 3 _ rfl⟩)
 refine wp_region_held_drew (S := (fun w' => w'.cell? ⟨ub, 0, none⟩ = some (.int .i64 A) ∧ w'.cell? ⟨ub, 1, none⟩ = some (.int .i64 B) ∧ w'.cell? ⟨ub, 2, none⟩ = some (.int .i64 C) ∧ w'.cell? ⟨ub, 3, none⟩ = some (.int .i64 D))) (by kernel_rfl) (yy HKS W4.drew (yy HU)) (fun hHeld => ?_)
 replace HR : Hid (Blk W4.drew _ _ _) := HR
 replace HU : Hid (Blk W4.drew _ _ _) := HU
 replace HC : Hid (aE _ W1.heap.size L sa sc) := yz ((yy HC).kept (Below.refl W4.heap.size W4).drew)
 replace HS := yz ((yy HS).below (Below.refl W4.heap.size W4).drew)
 replace HB := yz (aj (yy HB) (Below.refl W4.heap.size W4).drew)
 have hz5 : ub + 1 ≤ W4.drew.heap.size := by have : W4.drew.heap.size = W4.heap.size := rfl; omega
 obtain ⟨V0, HYY⟩ : ∃ YY, YY = W4.drew := ⟨_, rfl⟩
 rw [← HYY] at HR HU HC HS HB hHeld hz5 ⊢
 clear HYY
 refine ab 0 rfl ?_
 try simp only [Act.put, ag, ah, ai]
 refine ab 1 rfl ?_
 try simp only [Act.put, ag, ah, ai]
 refine ab 3 rfl ?_
 try simp only [Act.put, ag, ah, ai]
 refine wpAnyH_ready (rs := [2, 4]) (by kernel_rfl) (by simp) ?_
 refine (AllReadyH.cons rfl (fun K hK => ?_) (AllReadyH.cons rfl (fun K hK => ?_) AllReadyH.nil))
 ·go_simp
  have hy := ak V0 (.cells #[.int .i64 0, .int .i64 50, .int .i64 80, .int .i64 90, .int .i64 100, .int .i64 (-1), .int .i64 101] 2)
  have HLb := yz (aO V0 [.int .i64 0, .int .i64 50, .int .i64 80, .int .i64 90, .int .i64 100, .int .i64 (-1), .int .i64 101] 2)
  have hzl : (V0.alloc (.cells #[.int .i64 0, .int .i64 50, .int .i64 80, .int .i64 90, .int .i64 100, .int .i64 (-1), .int .i64 101] 2)).heap.size = V0.heap.size + 1 := by simp
  replace HR := yz ((yy HR).kept hy)
  replace HU := yz ((yy HU).kept hy)
  replace HC : Hid (aE _ W1.heap.size L sa sc) := yz ((yy HC).kept hy)
  replace HB := yz (aj (yy HB) hy)
  try replace HS := yz ((yy HS).below hy)
  clear hy
  refine hK.out _ _ ?_ (fun hHeld1 => ?_)
  ·exact yy HKS _ (yy HU)
  clear hK K
  refine wpAnyH_ready (rs := [4]) (by kernel_rfl) (by simp) ?_
  refine (AllReadyH.cons rfl (fun K hK => ?_) AllReadyH.nil)
  go_simp
  refine (bp (w.heap.size + 1) 7 (V0.alloc (.cells #[.int .i64 0, .int .i64 50, .int .i64 80, .int .i64 90, .int .i64 100, .int .i64 (-1), .int .i64 101] 2)) (yy HS) (by decide)).mono ?_
  rintro e V2 ⟨m, rfl, m0, m7, _, hS7, hg7⟩
  replace m7 := m7 (by decide)
  obtain ⟨m, rfl⟩ := Int.eq_ofNat_of_zero_le m0
  have hm7 : (m : Int) < 7 := by omega
  replace HR := yz (aG (yy HR) hg7 hnb)
  replace HU := yz (aG (yy HU) hg7 (fun e => by have := Option.some.inj e; omega))
  replace HB := yz (bJ (yy HB) hg7 (yy HB).size (fun q e => by have := Option.some.inj e; omega))
  replace HC : Hid (aE _ W1.heap.size L sa sc) := yz (World.ownsRow.kept (yy HC) hg7 (ed (yy HC) hlt))
  replace HLb := yz (aG (yy HLb) hg7 (fun e => by have := Option.some.inj e; omega))
  replace HS := yz hS7
  have hzv := hg7.size
  clear hS7 hg7
  refine hK.out _ _ ?_ (fun hHeld2 => ?_)
  ·exact yy HKS _ (yy HU)
  clear hK K
  refine ab 5 rfl ?_
  try simp only [Act.put, ag, ah, ai]
  refine ab 7 rfl ?_
  try simp only [Act.put, ag, ah, ai]
  refine wpAnyH_ready (rs := [6, 8]) (by kernel_rfl) (by simp) ?_
  refine (AllReadyH.cons rfl (fun K hK => ?_) (AllReadyH.cons rfl (fun K hK => ?_) AllReadyH.nil))
  ·obtain ⟨zz, hzz⟩ := gt (yy HLb) (show m < 7 by omega)
   go_simp
   refine hK.out _ _ ?_ (fun hHeld3 => ?_)
   ·exact yy HKS _ (yy HU)
   clear hK K
   refine wpAnyH_ready (rs := [8]) (by kernel_rfl) (by simp) ?_
   refine (AllReadyH.cons rfl (fun K hK => ?_) AllReadyH.nil)
   obtain ⟨y0, y1, y2, y3⟩ : V2.cell? ⟨w.heap.size, 0, none⟩ = some (.int .i64 0) ∧ V2.cell? ⟨w.heap.size, 1, none⟩ = some (.int .i64 0) ∧ V2.cell? ⟨w.heap.size, 2, none⟩ = some (.int .i64 0) ∧ V2.cell? ⟨w.heap.size, 3, none⟩ = some (.int .i64 0) := ⟨(yy HR).cell 0 _ rfl, (yy HR).cell 1 _ rfl, (yy HR).cell 2 _ rfl, (yy HR).cell 3 _ rfl⟩
   obtain ⟨z0, z1, z2, z3⟩ : V2.frozen? ⟨w.heap.size, 0, none⟩ = false ∧ V2.frozen? ⟨w.heap.size, 1, none⟩ = false ∧ V2.frozen? ⟨w.heap.size, 2, none⟩ = false ∧ V2.frozen? ⟨w.heap.size, 3, none⟩ = false := ⟨(yy HR).free 0, (yy HR).free 1, (yy HR).free 2, (yy HR).free 3⟩
   have hraw := yy HR
   go_simp
   have hgq := fa V2 w.heap.size (.int .i64 A) (.int .i64 B) (.int .i64 C) (.int .i64 D)
   replace HR := yz (jE (yy HR) (.int .i64 A) (.int .i64 B) (.int .i64 C) (.int .i64 D))
   replace HU := yz (aG (yy HU) hgq (fun e => by have h1 := Option.some.inj e; omega))
   replace HC : Hid (aE _ W1.heap.size L sa sc) := yz (World.ownsRow.kept (yy HC) hgq (dj (yy HC) hraw (by decide)))
   replace HB := yz (bJ (yy HB) hgq (yy HB).size (fun q e => by have h1 := Option.some.inj e; omega))
   clear hraw
   replace HLb := yz (aG (yy HLb) hgq (fun e => by have h1 := Option.some.inj e; omega))
   have hzs := hgq.size
   clear hgq y0 y1 y2 y3 z0 z1 z2 z3
   refine hK.out _ _ ?_ (fun hHeld4 => ?_)
   ·exact yy HKS _ (yy HU)
   clear hK K
   generalize ((((V2.setCell ⟨w.heap.size, 0, none⟩ (.int .i64 A)).setCell ⟨w.heap.size, 1, none⟩ (.int .i64 B)).setCell ⟨w.heap.size, 2, none⟩ (.int .i64 C)).setCell ⟨w.heap.size, 3, none⟩ (.int .i64 D)) = X4 at *
   refine wpAnyH_ready (rs := [9]) (by kernel_rfl) (by simp) ?_
   refine (AllReadyH.cons rfl (fun K hK => ?_) AllReadyH.nil)
   go_simp
   refine hK.out _ _ ?_ (fun hHeld5 => ?_)
   ·exact yy HKS _ (yy HU)
   clear hK K
   refine wpAnyH_done (by kernel_rfl) ?_ _
   go_wp2_with fail
   refine bodyPost_ret (v := .tuple #[.slice sa L.length sc, .agg #[.int .i64 A, .int .i64 B, .int .i64 C, .int .i64 D], .int .i64 zz]) (lp _ _ w.heap.size _ _ _ _ _ _ rfl rfl rfl (yy HR)) rfl ⟨L, sa, sc, A, B, C, D, zz, rfl, hll, World.ownsRow.mono (yy HC) (by omega), yy HB⟩
  ·obtain ⟨y0, y1, y2, y3⟩ : V2.cell? ⟨w.heap.size, 0, none⟩ = some (.int .i64 0) ∧ V2.cell? ⟨w.heap.size, 1, none⟩ = some (.int .i64 0) ∧ V2.cell? ⟨w.heap.size, 2, none⟩ = some (.int .i64 0) ∧ V2.cell? ⟨w.heap.size, 3, none⟩ = some (.int .i64 0) := ⟨(yy HR).cell 0 _ rfl, (yy HR).cell 1 _ rfl, (yy HR).cell 2 _ rfl, (yy HR).cell 3 _ rfl⟩
   obtain ⟨z0, z1, z2, z3⟩ : V2.frozen? ⟨w.heap.size, 0, none⟩ = false ∧ V2.frozen? ⟨w.heap.size, 1, none⟩ = false ∧ V2.frozen? ⟨w.heap.size, 2, none⟩ = false ∧ V2.frozen? ⟨w.heap.size, 3, none⟩ = false := ⟨(yy HR).free 0, (yy HR).free 1, (yy HR).free 2, (yy HR).free 3⟩
   have hraw := yy HR
   go_simp
   have hgq := fa V2 w.heap.size (.int .i64 A) (.int .i64 B) (.int .i64 C) (.int .i64 D)
   replace HR := yz (jE (yy HR) (.int .i64 A) (.int .i64 B) (.int .i64 C) (.int .i64 D))
   replace HU := yz (aG (yy HU) hgq (fun e => by have h1 := Option.some.inj e; omega))
   replace HC : Hid (aE _ W1.heap.size L sa sc) := yz (World.ownsRow.kept (yy HC) hgq (dj (yy HC) hraw (by decide)))
   replace HB := yz (bJ (yy HB) hgq (yy HB).size (fun q e => by have h1 := Option.some.inj e; omega))
   clear hraw
   replace HLb := yz (aG (yy HLb) hgq (fun e => by have h1 := Option.some.inj e; omega))
   have hzs := hgq.size
   clear hgq y0 y1 y2 y3 z0 z1 z2 z3
   refine hK.out _ _ ?_ (fun hHeld6 => ?_)
   ·exact yy HKS _ (yy HU)
   clear hK K
   generalize ((((V2.setCell ⟨w.heap.size, 0, none⟩ (.int .i64 A)).setCell ⟨w.heap.size, 1, none⟩ (.int .i64 B)).setCell ⟨w.heap.size, 2, none⟩ (.int .i64 C)).setCell ⟨w.heap.size, 3, none⟩ (.int .i64 D)) = X6 at *
   refine wpAnyH_ready (rs := [6]) (by kernel_rfl) (by simp) ?_
   refine (AllReadyH.cons rfl (fun K hK => ?_) AllReadyH.nil)
   obtain ⟨zz, hzz⟩ := gt (yy HLb) (show m < 7 by omega)
   go_simp
   refine hK.out _ _ ?_ (fun hHeld7 => ?_)
   ·exact yy HKS _ (yy HU)
   clear hK K
   refine wpAnyH_ready (rs := [9]) (by kernel_rfl) (by simp) ?_
   refine (AllReadyH.cons rfl (fun K hK => ?_) AllReadyH.nil)
   go_simp
   refine hK.out _ _ ?_ (fun hHeld8 => ?_)
   ·exact yy HKS _ (yy HU)
   clear hK K
   refine wpAnyH_done (by kernel_rfl) ?_ _
   go_wp2_with fail
   refine bodyPost_ret (v := .tuple #[.slice sa L.length sc, .agg #[.int .i64 A, .int .i64 B, .int .i64 C, .int .i64 D], .int .i64 zz]) (lp _ _ w.heap.size _ _ _ _ _ _ rfl rfl rfl (yy HR)) rfl ⟨L, sa, sc, A, B, C, D, zz, rfl, hll, World.ownsRow.mono (yy HC) (by omega), yy HB⟩
 ·go_simp
  refine (bp (w.heap.size + 1) 7 V0 (yy HS) (by decide)).mono ?_
  rintro e V9 ⟨m, rfl, m0, m7, _, hS7, hg7⟩
  replace m7 := m7 (by decide)
  obtain ⟨m, rfl⟩ := Int.eq_ofNat_of_zero_le m0
  have hm7 : (m : Int) < 7 := by omega
  replace HR := yz (aG (yy HR) hg7 hnb)
  replace HU := yz (aG (yy HU) hg7 (fun e => by have := Option.some.inj e; omega))
  replace HB := yz (bJ (yy HB) hg7 (yy HB).size (fun q e => by have := Option.some.inj e; omega))
  replace HC : Hid (aE _ W1.heap.size L sa sc) := yz (World.ownsRow.kept (yy HC) hg7 (ed (yy HC) hlt))
  replace HS := yz hS7
  have hzv := hg7.size
  clear hS7 hg7
  refine hK.out _ _ ?_ (fun hHeld9 => ?_)
  ·exact yy HKS _ (yy HU)
  clear hK K
  refine ab 7 rfl ?_
  try simp only [Act.put, ag, ah, ai]
  refine wpAnyH_ready (rs := [2, 8]) (by kernel_rfl) (by simp) ?_
  refine (AllReadyH.cons rfl (fun K hK => ?_) (AllReadyH.cons rfl (fun K hK => ?_) AllReadyH.nil))
  ·go_simp
   have hy := ak V9 (.cells #[.int .i64 0, .int .i64 50, .int .i64 80, .int .i64 90, .int .i64 100, .int .i64 (-1), .int .i64 101] 2)
   have HLb := yz (aO V9 [.int .i64 0, .int .i64 50, .int .i64 80, .int .i64 90, .int .i64 100, .int .i64 (-1), .int .i64 101] 2)
   have hzl : (V9.alloc (.cells #[.int .i64 0, .int .i64 50, .int .i64 80, .int .i64 90, .int .i64 100, .int .i64 (-1), .int .i64 101] 2)).heap.size = V9.heap.size + 1 := by simp
   replace HR := yz ((yy HR).kept hy)
   replace HU := yz ((yy HU).kept hy)
   replace HC : Hid (aE _ W1.heap.size L sa sc) := yz ((yy HC).kept hy)
   replace HB := yz (aj (yy HB) hy)
   try replace HS := yz ((yy HS).below hy)
   clear hy
   refine hK.out _ _ ?_ (fun hHeld10 => ?_)
   ·exact yy HKS _ (yy HU)
   clear hK K
   refine ab 5 rfl ?_
   try simp only [Act.put, ag, ah, ai]
   refine wpAnyH_ready (rs := [6, 8]) (by kernel_rfl) (by simp) ?_
   refine (AllReadyH.cons rfl (fun K hK => ?_) (AllReadyH.cons rfl (fun K hK => ?_) AllReadyH.nil))
   ·obtain ⟨zz, hzz⟩ := gt (yy HLb) (show m < 7 by omega)
    go_simp
    refine hK.out _ _ ?_ (fun hHeld11 => ?_)
    ·exact yy HKS _ (yy HU)
    clear hK K
    refine wpAnyH_ready (rs := [8]) (by kernel_rfl) (by simp) ?_
    refine (AllReadyH.cons rfl (fun K hK => ?_) AllReadyH.nil)
    obtain ⟨y0, y1, y2, y3⟩ : (V9.alloc (.cells #[.int .i64 0, .int .i64 50, .int .i64 80, .int .i64 90, .int .i64 100, .int .i64 (-1), .int .i64 101] 2)).cell? ⟨w.heap.size, 0, none⟩ = some (.int .i64 0) ∧ (V9.alloc (.cells #[.int .i64 0, .int .i64 50, .int .i64 80, .int .i64 90, .int .i64 100, .int .i64 (-1), .int .i64 101] 2)).cell? ⟨w.heap.size, 1, none⟩ = some (.int .i64 0) ∧ (V9.alloc (.cells #[.int .i64 0, .int .i64 50, .int .i64 80, .int .i64 90, .int .i64 100, .int .i64 (-1), .int .i64 101] 2)).cell? ⟨w.heap.size, 2, none⟩ = some (.int .i64 0) ∧ (V9.alloc (.cells #[.int .i64 0, .int .i64 50, .int .i64 80, .int .i64 90, .int .i64 100, .int .i64 (-1), .int .i64 101] 2)).cell? ⟨w.heap.size, 3, none⟩ = some (.int .i64 0) := ⟨(yy HR).cell 0 _ rfl, (yy HR).cell 1 _ rfl, (yy HR).cell 2 _ rfl, (yy HR).cell 3 _ rfl⟩
    obtain ⟨z0, z1, z2, z3⟩ : (V9.alloc (.cells #[.int .i64 0, .int .i64 50, .int .i64 80, .int .i64 90, .int .i64 100, .int .i64 (-1), .int .i64 101] 2)).frozen? ⟨w.heap.size, 0, none⟩ = false ∧ (V9.alloc (.cells #[.int .i64 0, .int .i64 50, .int .i64 80, .int .i64 90, .int .i64 100, .int .i64 (-1), .int .i64 101] 2)).frozen? ⟨w.heap.size, 1, none⟩ = false ∧ (V9.alloc (.cells #[.int .i64 0, .int .i64 50, .int .i64 80, .int .i64 90, .int .i64 100, .int .i64 (-1), .int .i64 101] 2)).frozen? ⟨w.heap.size, 2, none⟩ = false ∧ (V9.alloc (.cells #[.int .i64 0, .int .i64 50, .int .i64 80, .int .i64 90, .int .i64 100, .int .i64 (-1), .int .i64 101] 2)).frozen? ⟨w.heap.size, 3, none⟩ = false := ⟨(yy HR).free 0, (yy HR).free 1, (yy HR).free 2, (yy HR).free 3⟩
    have hraw := yy HR
    go_simp
    have hgq := fa (V9.alloc (.cells #[.int .i64 0, .int .i64 50, .int .i64 80, .int .i64 90, .int .i64 100, .int .i64 (-1), .int .i64 101] 2)) w.heap.size (.int .i64 A) (.int .i64 B) (.int .i64 C) (.int .i64 D)
    replace HR := yz (jE (yy HR) (.int .i64 A) (.int .i64 B) (.int .i64 C) (.int .i64 D))
    replace HU := yz (aG (yy HU) hgq (fun e => by have h1 := Option.some.inj e; omega))
    replace HC : Hid (aE _ W1.heap.size L sa sc) := yz (World.ownsRow.kept (yy HC) hgq (dj (yy HC) hraw (by decide)))
    replace HB := yz (bJ (yy HB) hgq (yy HB).size (fun q e => by have h1 := Option.some.inj e; omega))
    clear hraw
    replace HLb := yz (aG (yy HLb) hgq (fun e => by have h1 := Option.some.inj e; omega))
    have hzs := hgq.size
    clear hgq y0 y1 y2 y3 z0 z1 z2 z3
    refine hK.out _ _ ?_ (fun hHeld12 => ?_)
    ·exact yy HKS _ (yy HU)
    clear hK K
    generalize (((((V9.alloc (.cells #[.int .i64 0, .int .i64 50, .int .i64 80, .int .i64 90, .int .i64 100, .int .i64 (-1), .int .i64 101] 2)).setCell ⟨w.heap.size, 0, none⟩ (.int .i64 A)).setCell ⟨w.heap.size, 1, none⟩ (.int .i64 B)).setCell ⟨w.heap.size, 2, none⟩ (.int .i64 C)).setCell ⟨w.heap.size, 3, none⟩ (.int .i64 D)) = X12 at *
    refine wpAnyH_ready (rs := [9]) (by kernel_rfl) (by simp) ?_
    refine (AllReadyH.cons rfl (fun K hK => ?_) AllReadyH.nil)
    go_simp
    refine hK.out _ _ ?_ (fun hHeld13 => ?_)
    ·exact yy HKS _ (yy HU)
    clear hK K
    refine wpAnyH_done (by kernel_rfl) ?_ _
    go_wp2_with fail
    refine bodyPost_ret (v := .tuple #[.slice sa L.length sc, .agg #[.int .i64 A, .int .i64 B, .int .i64 C, .int .i64 D], .int .i64 zz]) (lp _ _ w.heap.size _ _ _ _ _ _ rfl rfl rfl (yy HR)) rfl ⟨L, sa, sc, A, B, C, D, zz, rfl, hll, World.ownsRow.mono (yy HC) (by omega), yy HB⟩
   ·obtain ⟨y0, y1, y2, y3⟩ : (V9.alloc (.cells #[.int .i64 0, .int .i64 50, .int .i64 80, .int .i64 90, .int .i64 100, .int .i64 (-1), .int .i64 101] 2)).cell? ⟨w.heap.size, 0, none⟩ = some (.int .i64 0) ∧ (V9.alloc (.cells #[.int .i64 0, .int .i64 50, .int .i64 80, .int .i64 90, .int .i64 100, .int .i64 (-1), .int .i64 101] 2)).cell? ⟨w.heap.size, 1, none⟩ = some (.int .i64 0) ∧ (V9.alloc (.cells #[.int .i64 0, .int .i64 50, .int .i64 80, .int .i64 90, .int .i64 100, .int .i64 (-1), .int .i64 101] 2)).cell? ⟨w.heap.size, 2, none⟩ = some (.int .i64 0) ∧ (V9.alloc (.cells #[.int .i64 0, .int .i64 50, .int .i64 80, .int .i64 90, .int .i64 100, .int .i64 (-1), .int .i64 101] 2)).cell? ⟨w.heap.size, 3, none⟩ = some (.int .i64 0) := ⟨(yy HR).cell 0 _ rfl, (yy HR).cell 1 _ rfl, (yy HR).cell 2 _ rfl, (yy HR).cell 3 _ rfl⟩
    obtain ⟨z0, z1, z2, z3⟩ : (V9.alloc (.cells #[.int .i64 0, .int .i64 50, .int .i64 80, .int .i64 90, .int .i64 100, .int .i64 (-1), .int .i64 101] 2)).frozen? ⟨w.heap.size, 0, none⟩ = false ∧ (V9.alloc (.cells #[.int .i64 0, .int .i64 50, .int .i64 80, .int .i64 90, .int .i64 100, .int .i64 (-1), .int .i64 101] 2)).frozen? ⟨w.heap.size, 1, none⟩ = false ∧ (V9.alloc (.cells #[.int .i64 0, .int .i64 50, .int .i64 80, .int .i64 90, .int .i64 100, .int .i64 (-1), .int .i64 101] 2)).frozen? ⟨w.heap.size, 2, none⟩ = false ∧ (V9.alloc (.cells #[.int .i64 0, .int .i64 50, .int .i64 80, .int .i64 90, .int .i64 100, .int .i64 (-1), .int .i64 101] 2)).frozen? ⟨w.heap.size, 3, none⟩ = false := ⟨(yy HR).free 0, (yy HR).free 1, (yy HR).free 2, (yy HR).free 3⟩
    have hraw := yy HR
    go_simp
    have hgq := fa (V9.alloc (.cells #[.int .i64 0, .int .i64 50, .int .i64 80, .int .i64 90, .int .i64 100, .int .i64 (-1), .int .i64 101] 2)) w.heap.size (.int .i64 A) (.int .i64 B) (.int .i64 C) (.int .i64 D)
    replace HR := yz (jE (yy HR) (.int .i64 A) (.int .i64 B) (.int .i64 C) (.int .i64 D))
    replace HU := yz (aG (yy HU) hgq (fun e => by have h1 := Option.some.inj e; omega))
    replace HC : Hid (aE _ W1.heap.size L sa sc) := yz (World.ownsRow.kept (yy HC) hgq (dj (yy HC) hraw (by decide)))
    replace HB := yz (bJ (yy HB) hgq (yy HB).size (fun q e => by have h1 := Option.some.inj e; omega))
    clear hraw
    replace HLb := yz (aG (yy HLb) hgq (fun e => by have h1 := Option.some.inj e; omega))
    have hzs := hgq.size
    clear hgq y0 y1 y2 y3 z0 z1 z2 z3
    refine hK.out _ _ ?_ (fun hHeld14 => ?_)
    ·exact yy HKS _ (yy HU)
    clear hK K
    generalize (((((V9.alloc (.cells #[.int .i64 0, .int .i64 50, .int .i64 80, .int .i64 90, .int .i64 100, .int .i64 (-1), .int .i64 101] 2)).setCell ⟨w.heap.size, 0, none⟩ (.int .i64 A)).setCell ⟨w.heap.size, 1, none⟩ (.int .i64 B)).setCell ⟨w.heap.size, 2, none⟩ (.int .i64 C)).setCell ⟨w.heap.size, 3, none⟩ (.int .i64 D)) = X14 at *
    refine wpAnyH_ready (rs := [6]) (by kernel_rfl) (by simp) ?_
    refine (AllReadyH.cons rfl (fun K hK => ?_) AllReadyH.nil)
    obtain ⟨zz, hzz⟩ := gt (yy HLb) (show m < 7 by omega)
    go_simp
    refine hK.out _ _ ?_ (fun hHeld15 => ?_)
    ·exact yy HKS _ (yy HU)
    clear hK K
    refine wpAnyH_ready (rs := [9]) (by kernel_rfl) (by simp) ?_
    refine (AllReadyH.cons rfl (fun K hK => ?_) AllReadyH.nil)
    go_simp
    refine hK.out _ _ ?_ (fun hHeld16 => ?_)
    ·exact yy HKS _ (yy HU)
    clear hK K
    refine wpAnyH_done (by kernel_rfl) ?_ _
    go_wp2_with fail
    refine bodyPost_ret (v := .tuple #[.slice sa L.length sc, .agg #[.int .i64 A, .int .i64 B, .int .i64 C, .int .i64 D], .int .i64 zz]) (lp _ _ w.heap.size _ _ _ _ _ _ rfl rfl rfl (yy HR)) rfl ⟨L, sa, sc, A, B, C, D, zz, rfl, hll, World.ownsRow.mono (yy HC) (by omega), yy HB⟩
  ·obtain ⟨y0, y1, y2, y3⟩ : V9.cell? ⟨w.heap.size, 0, none⟩ = some (.int .i64 0) ∧ V9.cell? ⟨w.heap.size, 1, none⟩ = some (.int .i64 0) ∧ V9.cell? ⟨w.heap.size, 2, none⟩ = some (.int .i64 0) ∧ V9.cell? ⟨w.heap.size, 3, none⟩ = some (.int .i64 0) := ⟨(yy HR).cell 0 _ rfl, (yy HR).cell 1 _ rfl, (yy HR).cell 2 _ rfl, (yy HR).cell 3 _ rfl⟩
   obtain ⟨z0, z1, z2, z3⟩ : V9.frozen? ⟨w.heap.size, 0, none⟩ = false ∧ V9.frozen? ⟨w.heap.size, 1, none⟩ = false ∧ V9.frozen? ⟨w.heap.size, 2, none⟩ = false ∧ V9.frozen? ⟨w.heap.size, 3, none⟩ = false := ⟨(yy HR).free 0, (yy HR).free 1, (yy HR).free 2, (yy HR).free 3⟩
   have hraw := yy HR
   go_simp
   have hgq := fa V9 w.heap.size (.int .i64 A) (.int .i64 B) (.int .i64 C) (.int .i64 D)
   replace HR := yz (jE (yy HR) (.int .i64 A) (.int .i64 B) (.int .i64 C) (.int .i64 D))
   replace HU := yz (aG (yy HU) hgq (fun e => by have h1 := Option.some.inj e; omega))
   replace HC : Hid (aE _ W1.heap.size L sa sc) := yz (World.ownsRow.kept (yy HC) hgq (dj (yy HC) hraw (by decide)))
   replace HB := yz (bJ (yy HB) hgq (yy HB).size (fun q e => by have h1 := Option.some.inj e; omega))
   clear hraw
   have hzs := hgq.size
   clear hgq y0 y1 y2 y3 z0 z1 z2 z3
   refine hK.out _ _ ?_ (fun hHeld17 => ?_)
   ·exact yy HKS _ (yy HU)
   clear hK K
   generalize ((((V9.setCell ⟨w.heap.size, 0, none⟩ (.int .i64 A)).setCell ⟨w.heap.size, 1, none⟩ (.int .i64 B)).setCell ⟨w.heap.size, 2, none⟩ (.int .i64 C)).setCell ⟨w.heap.size, 3, none⟩ (.int .i64 D)) = X17 at *
   refine wpAnyH_ready (rs := [2]) (by kernel_rfl) (by simp) ?_
   refine (AllReadyH.cons rfl (fun K hK => ?_) AllReadyH.nil)
   go_simp
   have hy := ak X17 (.cells #[.int .i64 0, .int .i64 50, .int .i64 80, .int .i64 90, .int .i64 100, .int .i64 (-1), .int .i64 101] 2)
   have HLb := yz (aO X17 [.int .i64 0, .int .i64 50, .int .i64 80, .int .i64 90, .int .i64 100, .int .i64 (-1), .int .i64 101] 2)
   have hzl : (X17.alloc (.cells #[.int .i64 0, .int .i64 50, .int .i64 80, .int .i64 90, .int .i64 100, .int .i64 (-1), .int .i64 101] 2)).heap.size = X17.heap.size + 1 := by simp
   replace HR := yz ((yy HR).kept hy)
   replace HU := yz ((yy HU).kept hy)
   replace HC : Hid (aE _ W1.heap.size L sa sc) := yz ((yy HC).kept hy)
   replace HB := yz (aj (yy HB) hy)
   try replace HS := yz ((yy HS).below hy)
   clear hy
   refine hK.out _ _ ?_ (fun hHeld18 => ?_)
   ·exact yy HKS _ (yy HU)
   clear hK K
   refine ab 5 rfl ?_
   try simp only [Act.put, ag, ah, ai]
   refine wpAnyH_ready (rs := [6]) (by kernel_rfl) (by simp) ?_
   refine (AllReadyH.cons rfl (fun K hK => ?_) AllReadyH.nil)
   obtain ⟨zz, hzz⟩ := gt (yy HLb) (show m < 7 by omega)
   go_simp
   refine hK.out _ _ ?_ (fun hHeld19 => ?_)
   ·exact yy HKS _ (yy HU)
   clear hK K
   refine wpAnyH_ready (rs := [9]) (by kernel_rfl) (by simp) ?_
   refine (AllReadyH.cons rfl (fun K hK => ?_) AllReadyH.nil)
   go_simp
   refine hK.out _ _ ?_ (fun hHeld20 => ?_)
   ·exact yy HKS _ (yy HU)
   clear hK K
   refine wpAnyH_done (by kernel_rfl) ?_ _
   go_wp2_with fail
   refine bodyPost_ret (v := .tuple #[.slice sa L.length sc, .agg #[.int .i64 A, .int .i64 B, .int .i64 C, .int .i64 D], .int .i64 zz]) (lp _ _ w.heap.size _ _ _ _ _ _ rfl rfl rfl (yy HR)) rfl ⟨L, sa, sc, A, B, C, D, zz, rfl, hll, World.ownsRow.mono (yy HC) (by omega), yy HB⟩
end
end Go.Proofs.YtoakkmjcbnfljaaGreatDoor
