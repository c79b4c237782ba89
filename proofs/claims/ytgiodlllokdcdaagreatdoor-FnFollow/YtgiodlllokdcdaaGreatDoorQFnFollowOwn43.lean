/- Several texts in one: FlM, DrL. -/
import Derived.Test.YtgiodlllokdcdaaGreatDoorQFnFollowOwn10
import Derived.Test.YtgiodlllokdcdaaGreatDoorQFnFollowOwn32
import Derived.Test.YtgiodlllokdcdaaGreatDoorQFnFollowOwn35
import Derived.Test.YtgiodlllokdcdaaGreatDoorQFnFollowOwn42
import Derived.Test.YtgiodlllokdcdaaGreatDoorQFnFollowOwn1
namespace Go.Proofs.YtgiodlllokdcdaaGreatDoor
set_option linter.unusedVariables false
set_option linter.unusedSimpArgs false
set_option maxRecDepth 100000
set_option maxHeartbeats 8000000
section
open Go.RowKit
theorem rk {t : Tk} {g1 g2 g3 g4 : Int} (h0 : t.mode ≠ 0) (hk : coK g1 g2 g3 g4 t.A t.B t.C t.D = 0) : (aT t g1 g2 g3 g4).L = t.L ∧ (aT t g1 g2 g3 g4).mode = t.mode ∧ (aT t g1 g2 g3 g4).fr = t.fr ∧ (aT t g1 g2 g3 g4).A = ku g1 g2 g3 g4 t.A t.B t.C t.D ∧ (aT t g1 g2 g3 g4).B = kw g1 g2 g3 g4 t.A t.B t.C t.D ∧ (aT t g1 g2 g3 g4).C = kx g1 g2 g3 g4 t.A t.B t.C t.D ∧ (aT t g1 g2 g3 g4).D = ky g1 g2 g3 g4 t.A t.B t.C t.D := by
 unfold aT
 rw [if_neg h0, if_pos hk]
 exact ⟨rfl, rfl, rfl, rfl, rfl, rfl, rfl⟩
theorem tp {t : Tk} {g1 g2 g3 g4 : Int} (h0 : t.mode ≠ 0) (hk : coK g1 g2 g3 g4 t.A t.B t.C t.D ≠ 0) : (aT t g1 g2 g3 g4).mode = 0 := by
 unfold aT
 rw [if_neg h0, if_neg hk]
 rfl
theorem qG {u : Tk} (h : aS u = true) (h0 : u.mode ≠ 0) (hf : u.fr < 1000000) (cone : Int) : eQ u (scS u.L u.A u.B u.C u.D cone) = 0 ∧ (2 ≤ (scI u.L u.A u.B u.C u.D cone).length → (bM u (scS u.L u.A u.B u.C u.D cone)).mode = 1 ∧ (bM u (scS u.L u.A u.B u.C u.D cone)).A = u.A ∧ (bM u (scS u.L u.A u.B u.C u.D cone)).B = u.B ∧ (bM u (scS u.L u.A u.B u.C u.D cone)).C = u.C ∧ (bM u (scS u.L u.A u.B u.C u.D cone)).D = u.D) := by
 obtain ⟨hk, _, hr, _, _⟩ := gL h
 have ht := hr h0
 have hs := pY cone hk ht
 have hl : ¬ 400 < (scS u.L u.A u.B u.C u.D cone).length := by have := oJ u.L u.A u.B u.C u.D cone; rw [jn]; omega
 obtain ⟨e1, e2⟩ := lF hl h hs (by omega)
 refine ⟨e2, fun h2 => ?_⟩
 rw [e1]
 unfold cx
 rw [if_pos ⟨h0, by rw [uq cone hk ht, vU cone hk]; exact h2⟩]
 exact ⟨rfl, rfl, rfl, rfl, rfl⟩
end
section
open Go.RowKit Go.Sort
theorem Row.upL {w w' : World} {a : Option Addr} {len B B' : Nat} (h : Row w a len B) (hB : B ≤ B') (hk : ∀ k, k < B → w'.heap[k]? = w.heap[k]?) : Row w' a len B' := by
 rcases h with h | ⟨b, o, rfl, hb, h⟩
 ·exact .inl h
 ·refine .inr ⟨b, o, rfl, Nat.lt_of_lt_of_le hb hB, fun i hi => ?_⟩
  obtain ⟨v, hv, h2⟩ := h i hi
  exact ⟨v, by rw [World.cell?_of_block (a := ⟨b, o + i, none⟩) (hk b hb)]; exact hv, h2⟩
theorem vS (T : Array Value) (X : World) (b c : Nat) (v0 v1 v2 v3 v4 v5 v6 v7 v8 u0 u1 u2 u3 : Value) (hT : T.getD 2 undef = .pointer (some ⟨b, 0, none⟩)) (hT3 : T.getD 3 undef = .pointer (some ⟨c, 0, none⟩)) (h : Blk X b [v0, v1, v2, v3, v4, v5, v6, v7, v8] 27) (g : Blk X c [u0, u1, u2, u3] 25) : (results Tryz.f7 T).run Tryz.prog X = .ok (.tuple #[.agg #[v0, v1, v2, v3, v4, v5, v6, v7, v8], .agg #[u0, u1, u2, u3]]) X := by
 obtain ⟨h0, h1, h2, h3, h4, h5, h6, h7, h8⟩ := dT (h)
 obtain ⟨g0, g1, g2, g3⟩ := uE (g)
 simp only [Array.getD_eq_getD_getElem?] at hT hT3
 simp [results, Tryz.results7, go_sem, hT, hT3, h0, h1, h2, h3, h4, h5, h6, h7, h8, g0, g1, g2, g3]
theorem nS (ca : Option Addr) (len cc : Nat) (w : World) (hl : len ≤ 1048576) (hR : Row w ca len w.heap.size) :
  Calls Tryz.prog 7 #[.slice ca len cc] w fun e w' => ∃ (t : Tk) (g1 g2 g3 g4 : Int) (a : Option Addr) (cap : Nat), e = .returned (.tuple #[.agg #[.slice a t.L.length cap, .int .i64 t.lim, .int .i64 t.mode, .int .i64 t.A, .int .i64 t.B, .int .i64 t.C, .int .i64 t.D, .int .i64 t.coast, .int .i64 t.fr], .agg #[.int .i64 g1, .int .i64 g2, .int .i64 g3, .int .i64 g4]]) ∧ t.L.length ≤ 400 ∧ ay w' w.heap.size t.L a cap ∧ Below w.heap.size w w' := by
 have Z := aM w (.cells #[.slice none 0 0, .int .i64 0, .int .i64 0, .int .i64 0, .int .i64 0, .int .i64 0, .int .i64 0, .int .i64 0, .int .i64 0] 27) (.cells #[.int .i64 0, .int .i64 0, .int .i64 0, .int .i64 0] 25)
 have HR := yz ((aF w [.slice none 0 0, .int .i64 0, .int .i64 0, .int .i64 0, .int .i64 0, .int .i64 0, .int .i64 0, .int .i64 0, .int .i64 0] 27).alloc (.cells #[.int .i64 0, .int .i64 0, .int .i64 0, .int .i64 0] 25))
 have HR2 : Hid (Blk ((w.alloc (.cells #[.slice none 0 0, .int .i64 0, .int .i64 0, .int .i64 0, .int .i64 0, .int .i64 0, .int .i64 0, .int .i64 0, .int .i64 0] 27)).alloc (.cells #[.int .i64 0, .int .i64 0, .int .i64 0, .int .i64 0] 25)) (w.heap.size + 1) [.int .i64 0, .int .i64 0, .int .i64 0, .int .i64 0] 25) := yz (by have h := aF (w.alloc (.cells #[.slice none 0 0, .int .i64 0, .int .i64 0, .int .i64 0, .int .i64 0, .int .i64 0, .int .i64 0, .int .i64 0, .int .i64 0] 27)) [.int .i64 0, .int .i64 0, .int .i64 0, .int .i64 0] 25; simpa using h)
 have hz : ((w.alloc (.cells #[.slice none 0 0, .int .i64 0, .int .i64 0, .int .i64 0, .int .i64 0, .int .i64 0, .int .i64 0, .int .i64 0, .int .i64 0] 27)).alloc (.cells #[.int .i64 0, .int .i64 0, .int .i64 0, .int .i64 0] 25)).heap.size = w.heap.size + 2 := by simp
 have cS := yz (qW ca len cc ((w.alloc (.cells #[.slice none 0 0, .int .i64 0, .int .i64 0, .int .i64 0, .int .i64 0, .int .i64 0, .int .i64 0, .int .i64 0, .int .i64 0] 27)).alloc (.cells #[.int .i64 0, .int .i64 0, .int .i64 0, .int .i64 0] 25)) hl (hR.upL Z.size Z.block))
 have HB := yz Z
 rw [hz] at cS
 clear hR Z
 go_enter Tryz.func7, Tryz.ntmps7
 go_upto_region 1 with fail
 generalize (w.alloc (.cells #[.slice none 0 0, .int .i64 0, .int .i64 0, .int .i64 0, .int .i64 0, .int .i64 0, .int .i64 0, .int .i64 0, .int .i64 0] 27)).alloc (.cells #[.int .i64 0, .int .i64 0, .int .i64 0, .int .i64 0] 25) = W0 at *
 go_wp2_with fail
 refine (yy cS).mono ?_
 rintro e W1 ⟨rfl, hS1, hx⟩
 rw [← hz] at hx
 have HR1 := yz ((yy HR).kept hx)
 have HR21 := yz ((yy HR2).kept hx)
 have HB1 := yz (aj (yy HB) hx)
 have HS1 := yz hS1
 clear hx hS1 HR HR2 HB cS hz
 go_wp2_with fail
 refine (lE (w.heap.size + 2) W1 (yy HS1)).mono ?_
 rintro e W2 ⟨t, u, a, cap, rfl, hlen, hC2, hS2, hg2⟩
 have hne : ∀ k, k < (w.heap.size + 2) → some k ≠ some (w.heap.size + 2) := fun k hk e => by have := Option.some.inj e; omega
 have HR2a := yz (aA (yy HR1) hg2 (hne _ (by omega)))
 have HR2b := yz (aA (yy HR21) hg2 (hne _ (by omega)))
 have HB2 := yz (eB (yy HB1) hg2 (yy HB1).size (fun q e => by have := Option.some.inj e; omega))
 have hy := aM W2 (.cells #[.slice a t.L.length cap, .int .i64 t.lim, .int .i64 t.mode, .int .i64 t.A, .int .i64 t.B, .int .i64 t.C, .int .i64 t.D, .int .i64 t.coast, .int .i64 t.fr] 27) (.cells #[.int .i64 u.1, .int .i64 u.2.1, .int .i64 u.2.2.1, .int .i64 u.2.2.2] 25)
 have HK := yz ((aF W2 [.slice a t.L.length cap, .int .i64 t.lim, .int .i64 t.mode, .int .i64 t.A, .int .i64 t.B, .int .i64 t.C, .int .i64 t.D, .int .i64 t.coast, .int .i64 t.fr] 27).alloc (.cells #[.int .i64 u.1, .int .i64 u.2.1, .int .i64 u.2.2.1, .int .i64 u.2.2.2] 25))
 have HR := yz ((yy HR2a).kept hy)
 have HR2 := yz ((yy HR2b).kept hy)
 have HC : Hid (ay _ W1.heap.size t.L a cap) := yz (hC2.kept hy)
 have hsW : (w.heap.size + 2) < W1.heap.size := (yy HS1).lt
 have hwW : w.heap.size ≤ W1.heap.size := (yy HB1).size
 have HB := yz (aj (yy HB2) hy)
 have HS := yz (hS2.below hy)
 have hks : (w.heap.size + 2) < W2.heap.size := hS2.lt
 clear hC2 hS2 hg2 hy HR1 HR21 HB1 HS1 HR2a HR2b HB2
 go_upto_region 3 with fail
 generalize (W2.alloc (.cells #[.slice a t.L.length cap, .int .i64 t.lim, .int .i64 t.mode, .int .i64 t.A, .int .i64 t.B, .int .i64 t.C, .int .i64 t.D, .int .i64 t.coast, .int .i64 t.fr] 27)).alloc (.cells #[.int .i64 u.1, .int .i64 u.2.1, .int .i64 u.2.2.1, .int .i64 u.2.2.2] 25) = W3 at *
 generalize W2.heap.size = kb at *
 have HKS : Hid (∀ w' : World, Blk w' kb [.slice a t.L.length cap, .int .i64 t.lim, .int .i64 t.mode, .int .i64 t.A, .int .i64 t.B, .int .i64 t.C, .int .i64 t.D, .int .i64 t.coast, .int .i64 t.fr] 27 → w'.cell? ⟨kb, 0, none⟩ = some (.slice a t.L.length cap) ∧ w'.cell? ⟨kb, 1, none⟩ = some (.int .i64 t.lim) ∧ w'.cell? ⟨kb, 2, none⟩ = some (.int .i64 t.mode) ∧ w'.cell? ⟨kb, 3, none⟩ = some (.int .i64 t.A) ∧ w'.cell? ⟨kb, 4, none⟩ = some (.int .i64 t.B) ∧ w'.cell? ⟨kb, 5, none⟩ = some (.int .i64 t.C) ∧ w'.cell? ⟨kb, 6, none⟩ = some (.int .i64 t.D) ∧ w'.cell? ⟨kb, 7, none⟩ = some (.int .i64 t.coast) ∧ w'.cell? ⟨kb, 8, none⟩ = some (.int .i64 t.fr)) := yz (fun w' hk => ⟨hk.cell 0 _ rfl, hk.cell 1 _ rfl, hk.cell 2 _ rfl, hk.cell 3 _ rfl, hk.cell 4 _ rfl, hk.cell 5 _ rfl, hk.cell 6 _ rfl, hk.cell 7 _ rfl, hk.cell 8 _ rfl⟩)
 refine wp_region_held_drew (S := (fun w' => w'.cell? ⟨kb, 0, none⟩ = some (.slice a t.L.length cap) ∧ w'.cell? ⟨kb, 1, none⟩ = some (.int .i64 t.lim) ∧ w'.cell? ⟨kb, 2, none⟩ = some (.int .i64 t.mode) ∧ w'.cell? ⟨kb, 3, none⟩ = some (.int .i64 t.A) ∧ w'.cell? ⟨kb, 4, none⟩ = some (.int .i64 t.B) ∧ w'.cell? ⟨kb, 5, none⟩ = some (.int .i64 t.C) ∧ w'.cell? ⟨kb, 6, none⟩ = some (.int .i64 t.D) ∧ w'.cell? ⟨kb, 7, none⟩ = some (.int .i64 t.coast) ∧ w'.cell? ⟨kb, 8, none⟩ = some (.int .i64 t.fr))) (by kernel_rfl) (yy HKS W3.drew (yy HK)) (fun hHeld => ?_)
 refine ab 0 rfl ?_
 try simp only [Act.put, ag, ah, ai]
 refine ab 1 rfl ?_
 try simp only [Act.put, ag, ah, ai]
 replace HR : Hid (Blk W3.drew _ _ _) := HR
 replace HR2 : Hid (Blk W3.drew _ _ _) := HR2
 replace HK : Hid (Blk W3.drew _ _ _) := HK
 replace HS := yz ((yy HS).below (Below.refl W3.heap.size W3).drew)
 replace HC := yz ((yy HC).kept (Below.refl W3.heap.size W3).drew)
 replace HB := yz (aj (yy HB) (Below.refl W3.heap.size W3).drew)
 obtain ⟨V0, HYY⟩ : ∃ YY, YY = W3.drew := ⟨_, rfl⟩
 rw [← HYY] at HR HR2 HK HS HC HB hHeld ⊢
 clear HYY
 refine ae 2 rfl fun K hK => ?_
 go_simp
 refine (fu (w.heap.size + 2) V0 (yy HS)).mono ?_
 rintro e V1 ⟨g1, g2, g3, g4, rfl, hS1, hg1⟩
 replace HR := yz (aA (yy HR) hg1 (hne _ (by omega)))
 replace HR2 := yz (aA (yy HR2) hg1 (hne _ (by omega)))
 replace HK := yz (aA (yy HK) hg1 (fun e => by have := Option.some.inj e; omega))
 replace HC : Hid (ay V1 W1.heap.size t.L a cap) := yz (World.ownsRow.kept (yy HC) hg1 (qa (yy HC) hsW))
 replace HB := yz (eB (yy HB) hg1 (yy HB).size (fun q e => by have := Option.some.inj e; omega))
 clear hS1 hg1 HS
 refine hK.out _ _ (yy HKS _ (yy HK)) (fun hHeld2 => ?_)
 clear hK K hHeld
 have hHeld := hHeld2
 clear hHeld2
 refine ae 3 rfl fun K hK => ?_
 obtain ⟨y0, y1, y2, y3, y4, y5, y6, y7, y8⟩ : V1.cell? ⟨w.heap.size, 0, none⟩ = some (.slice none 0 0) ∧ V1.cell? ⟨w.heap.size, 1, none⟩ = some (.int .i64 0) ∧ V1.cell? ⟨w.heap.size, 2, none⟩ = some (.int .i64 0) ∧ V1.cell? ⟨w.heap.size, 3, none⟩ = some (.int .i64 0) ∧ V1.cell? ⟨w.heap.size, 4, none⟩ = some (.int .i64 0) ∧ V1.cell? ⟨w.heap.size, 5, none⟩ = some (.int .i64 0) ∧ V1.cell? ⟨w.heap.size, 6, none⟩ = some (.int .i64 0) ∧ V1.cell? ⟨w.heap.size, 7, none⟩ = some (.int .i64 0) ∧ V1.cell? ⟨w.heap.size, 8, none⟩ = some (.int .i64 0) := ⟨(yy HR).cell 0 _ rfl, (yy HR).cell 1 _ rfl, (yy HR).cell 2 _ rfl, (yy HR).cell 3 _ rfl, (yy HR).cell 4 _ rfl, (yy HR).cell 5 _ rfl, (yy HR).cell 6 _ rfl, (yy HR).cell 7 _ rfl, (yy HR).cell 8 _ rfl⟩
 obtain ⟨z0, z1, z2, z3, z4, z5, z6, z7, z8⟩ : V1.frozen? ⟨w.heap.size, 0, none⟩ = false ∧ V1.frozen? ⟨w.heap.size, 1, none⟩ = false ∧ V1.frozen? ⟨w.heap.size, 2, none⟩ = false ∧ V1.frozen? ⟨w.heap.size, 3, none⟩ = false ∧ V1.frozen? ⟨w.heap.size, 4, none⟩ = false ∧ V1.frozen? ⟨w.heap.size, 5, none⟩ = false ∧ V1.frozen? ⟨w.heap.size, 6, none⟩ = false ∧ V1.frozen? ⟨w.heap.size, 7, none⟩ = false ∧ V1.frozen? ⟨w.heap.size, 8, none⟩ = false := ⟨(yy HR).free 0, (yy HR).free 1, (yy HR).free 2, (yy HR).free 3, (yy HR).free 4, (yy HR).free 5, (yy HR).free 6, (yy HR).free 7, (yy HR).free 8⟩
 have hraw := yy HR
 go_simp
 have hgq := iI V1 (w.heap.size) (.slice a t.L.length cap) (.int .i64 t.lim) (.int .i64 t.mode) (.int .i64 t.A) (.int .i64 t.B) (.int .i64 t.C) (.int .i64 t.D) (.int .i64 t.coast) (.int .i64 t.fr)
 replace HR2 := yz (aA (yy HR2) hgq (fun e => by have h1 := Option.some.inj e; omega))
 replace HR := yz (qs (yy HR) (.slice a t.L.length cap) (.int .i64 t.lim) (.int .i64 t.mode) (.int .i64 t.A) (.int .i64 t.B) (.int .i64 t.C) (.int .i64 t.D) (.int .i64 t.coast) (.int .i64 t.fr))
 replace HK := yz (aA (yy HK) hgq (fun e => by have h1 := Option.some.inj e; omega))
 replace HC : Hid (ay _ W1.heap.size t.L a cap) := yz (World.ownsRow.kept (yy HC) hgq (bX (yy HC) hraw (by decide)))
 replace HB := yz (eB (yy HB) hgq (yy HB).size (fun q e => by have h1 := Option.some.inj e; omega))
 refine hK.out _ _ (yy HKS _ (yy HK)) (fun hHeld2 => ?_)
 clear hK K hHeld hgq hraw y0 y1 y2 y3 y4 y5 y6 y7 y8 z0 z1 z2 z3 z4 z5 z6 z7 z8
 have hHeld := hHeld2
 clear hHeld2
 generalize (((((((((V1.setCell ⟨w.heap.size, 0, none⟩ (.slice a t.L.length cap)).setCell ⟨w.heap.size, 1, none⟩ (.int .i64 t.lim)).setCell ⟨w.heap.size, 2, none⟩ (.int .i64 t.mode)).setCell ⟨w.heap.size, 3, none⟩ (.int .i64 t.A)).setCell ⟨w.heap.size, 4, none⟩ (.int .i64 t.B)).setCell ⟨w.heap.size, 5, none⟩ (.int .i64 t.C)).setCell ⟨w.heap.size, 6, none⟩ (.int .i64 t.D)).setCell ⟨w.heap.size, 7, none⟩ (.int .i64 t.coast)).setCell ⟨w.heap.size, 8, none⟩ (.int .i64 t.fr)) = V2 at *
 refine ae 4 rfl fun K hK => ?_
 obtain ⟨y0, y1, y2, y3⟩ : V2.cell? ⟨w.heap.size + 1, 0, none⟩ = some (.int .i64 0) ∧ V2.cell? ⟨w.heap.size + 1, 1, none⟩ = some (.int .i64 0) ∧ V2.cell? ⟨w.heap.size + 1, 2, none⟩ = some (.int .i64 0) ∧ V2.cell? ⟨w.heap.size + 1, 3, none⟩ = some (.int .i64 0) := ⟨(yy HR2).cell 0 _ rfl, (yy HR2).cell 1 _ rfl, (yy HR2).cell 2 _ rfl, (yy HR2).cell 3 _ rfl⟩
 obtain ⟨z0, z1, z2, z3⟩ : V2.frozen? ⟨w.heap.size + 1, 0, none⟩ = false ∧ V2.frozen? ⟨w.heap.size + 1, 1, none⟩ = false ∧ V2.frozen? ⟨w.heap.size + 1, 2, none⟩ = false ∧ V2.frozen? ⟨w.heap.size + 1, 3, none⟩ = false := ⟨(yy HR2).free 0, (yy HR2).free 1, (yy HR2).free 2, (yy HR2).free 3⟩
 have hraw := yy HR2
 go_simp
 have hgq := qA V2 (w.heap.size + 1) (.int .i64 g1) (.int .i64 g2) (.int .i64 g3) (.int .i64 g4)
 replace HR := yz (aA (yy HR) hgq (fun e => by have h1 := Option.some.inj e; omega))
 replace HR2 := yz (vG (yy HR2) (.int .i64 g1) (.int .i64 g2) (.int .i64 g3) (.int .i64 g4))
 replace HK := yz (aA (yy HK) hgq (fun e => by have h1 := Option.some.inj e; omega))
 replace HC : Hid (ay _ W1.heap.size t.L a cap) := yz (World.ownsRow.kept (yy HC) hgq (bX (yy HC) hraw (by decide)))
 replace HB := yz (eB (yy HB) hgq (yy HB).size (fun q e => by have h1 := Option.some.inj e; omega))
 refine hK.out _ _ (yy HKS _ (yy HK)) (fun hHeld2 => ?_)
 clear hK K hHeld hgq hraw y0 y1 y2 y3 z0 z1 z2 z3
 have hHeld := hHeld2
 clear hHeld2
 refine wpAnyH_done (by kernel_rfl) ?_ _
 clear hHeld
 go_wp2_with fail
 refine bodyPost_ret (v := .tuple #[.agg #[.slice a t.L.length cap, .int .i64 t.lim, .int .i64 t.mode, .int .i64 t.A, .int .i64 t.B, .int .i64 t.C, .int .i64 t.D, .int .i64 t.coast, .int .i64 t.fr], .agg #[.int .i64 g1, .int .i64 g2, .int .i64 g3, .int .i64 g4]]) (vS _ _ w.heap.size (w.heap.size + 1) _ _ _ _ _ _ _ _ _ _ _ _ _ rfl rfl (yy HR) (yy HR2)) rfl ⟨t, g1, g2, g3, g4, a, cap, rfl, hlen, World.ownsRow.mono (yy HC) hwW, yy HB⟩
end
end Go.Proofs.YtgiodlllokdcdaaGreatDoor
