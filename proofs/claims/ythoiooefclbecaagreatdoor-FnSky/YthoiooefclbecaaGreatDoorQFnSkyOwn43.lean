/- Several texts in one: SyE, SyK. -/
import Derived.Lib.QuietBelow
import Derived.BigQuiet
import Derived.Test.YthoiooefclbecaaGreatDoorQFnSkyOwn42
import Derived.Test.YthoiooefclbecaaGreatDoorQFnSkyOwn1
namespace Go.Proofs.YthoiooefclbecaaGreatDoor
set_option linter.unusedVariables false
set_option linter.unusedSimpArgs false
set_option maxRecDepth 100000
set_option maxHeartbeats 8000000
section
open Go.RowKit Go.Sort
theorem fI (W : World) (b : Nat) (x0 x1 x2 : Value) : W.grownBy (((W.setCell ⟨b, 0, none⟩ x0).setCell ⟨b, 1, none⟩ x1).setCell ⟨b, 2, none⟩ x2) (some b) := al (al (gp _ _ _ _) (gp _ _ _ _)) (gp _ _ _ _)
theorem lm {W : World} {b : Nat} {v0 v1 v2 : Value} {t : TypeId} (h : Blk W b [v0, v1, v2] t) (x0 x1 x2 : Value) : Blk (((W.setCell ⟨b, 0, none⟩ x0).setCell ⟨b, 1, none⟩ x1).setCell ⟨b, 2, none⟩ x2) b [x0, x1, x2] t := Blk.set (Blk.set (Blk.set h 0 _) 1 _) 2 _
theorem oZ (T : Array Value) (X : World) (b c : Nat) (v0 v1 v2 u0 u1 u2 x : Value) (hT2 : T.getD 2 undef = x) (hT : T.getD 3 undef = .pointer (some ⟨b, 0, none⟩)) (hT4 : T.getD 4 undef = .pointer (some ⟨c, 0, none⟩)) (h : Blk X b [v0, v1, v2] 33) (g : Blk X c [u0, u1, u2] 33) : (results Tryz.f9 T).run Tryz.prog X = .ok (.tuple #[x, .agg #[v0, v1, v2], .agg #[u0, u1, u2]]) X := by
 obtain ⟨h0, h1, h2⟩ := bcs3 (h)
 obtain ⟨g0, g1, g2⟩ := bcs3 (g)
 simp only [Array.getD_eq_getD_getElem?] at hT hT2 hT4
 simp [results, Tryz.results9, go_sem, hT, hT2, hT4, h0, h1, h2, g0, g1, g2]
theorem kQ (ca : Option Addr) (len cc : Nat) (w : World) (hl : len ≤ 1048576) (hR : Row w ca len w.heap.size) :
  Calls Tryz.prog 9 #[.slice ca len cc] w fun e w' => ∃ (L : List St) (sa : Option Addr) (sc : Nat) (a1 a2 a3 b1 b2 b3 : Int), e = .returned (.tuple #[.slice sa L.length sc, .agg #[.int .i64 a1, .int .i64 a2, .int .i64 a3], .agg #[.int .i64 b1, .int .i64 b2, .int .i64 b3]]) ∧ L.length ≤ 13 ∧ ap w' w.heap.size L sa sc ∧ Below w.heap.size w w' := by
 have Z := be w (.cells #[.int .i64 0, .int .i64 0, .int .i64 0] 33) (.cells #[.int .i64 0, .int .i64 0, .int .i64 0] 33)
 have HR := yz ((bj w [.int .i64 0, .int .i64 0, .int .i64 0] 33).alloc (.cells #[.int .i64 0, .int .i64 0, .int .i64 0] 33))
 have HR2 : Hid (Blk ((w.alloc (.cells #[.int .i64 0, .int .i64 0, .int .i64 0] 33)).alloc (.cells #[.int .i64 0, .int .i64 0, .int .i64 0] 33)) (w.heap.size + 1) [.int .i64 0, .int .i64 0, .int .i64 0] 33) := yz (by have h := bj (w.alloc (.cells #[.int .i64 0, .int .i64 0, .int .i64 0] 33)) [.int .i64 0, .int .i64 0, .int .i64 0] 33; simpa using h)
 have hz : ((w.alloc (.cells #[.int .i64 0, .int .i64 0, .int .i64 0] 33)).alloc (.cells #[.int .i64 0, .int .i64 0, .int .i64 0] 33)).heap.size = w.heap.size + 2 := by simp
 have cS := yz (ex ca len cc ((w.alloc (.cells #[.int .i64 0, .int .i64 0, .int .i64 0] 33)).alloc (.cells #[.int .i64 0, .int .i64 0, .int .i64 0] 33)) hl (hR.upI Z.size Z.block))
 have HB := yz Z
 rw [hz] at cS
 clear hR Z
 go_enter Tryz.func9, Tryz.ntmps9
 go_upto_region 1 with fail
 generalize (w.alloc (.cells #[.int .i64 0, .int .i64 0, .int .i64 0] 33)).alloc (.cells #[.int .i64 0, .int .i64 0, .int .i64 0] 33) = W0 at *
 go_wp2_with fail
 refine (yy cS).mono ?_
 rintro e W1 ⟨rfl, hS1, hx⟩
 rw [← hz] at hx
 replace HR := yz ((yy HR).kept hx)
 replace HR2 := yz ((yy HR2).kept hx)
 replace HB := yz (ak (yy HB) hx)
 have HS := yz hS1
 have hlt : w.heap.size + 2 < W1.heap.size := hS1.lt
 clear hx hS1 cS
 have hnb : ∀ k, k < w.heap.size + 2 → some k ≠ some (w.heap.size + 2) := fun k hk e => by have := Option.some.inj e; omega
 go_wp2_with fail
 refine (el (w.heap.size + 2) W1 (yy HS)).mono ?_
 rintro e W2 ⟨L, sa, sc, rfl, hll, hK⟩
 replace HR := yz (an (yy HR) hK.gr (hnb _ (by omega)))
 replace HR2 := yz (an (yy HR2) hK.gr (hnb _ (by omega)))
 replace HB := yz (aK (yy HB) hK.gr (yy HB).size (fun q e => by have := Option.some.inj e; omega))
 have HC := yz hK.row
 replace HS := yz hK.src
 have hz2 := hK.gr.size
 clear hK
 go_wp2_with fail
 refine (iV (w.heap.size + 2) W2 (yy HS)).mono ?_
 rintro e W3 ⟨A, B, C, D, rfl, hS3, hg3⟩
 replace HR := yz (an (yy HR) hg3 (hnb _ (by omega)))
 replace HR2 := yz (an (yy HR2) hg3 (hnb _ (by omega)))
 replace HB := yz (aK (yy HB) hg3 (yy HB).size (fun q e => by have := Option.some.inj e; omega))
 replace HC : Hid (ap W3 W1.heap.size L sa sc) := yz (World.ownsRow.kept (yy HC) hg3 (bC (yy HC) hlt))
 replace HS := yz hS3
 have hz3 := hg3.size
 clear hS3 hg3
 have hy := am W3 (.cells #[.int .i64 A, .int .i64 B, .int .i64 C, .int .i64 D] 37)
 have HT := yz (bj W3 [.int .i64 A, .int .i64 B, .int .i64 C, .int .i64 D] 37)
 replace HR := yz ((yy HR).kept hy)
 replace HR2 := yz ((yy HR2).kept hy)
 replace HB := yz (ak (yy HB) hy)
 replace HS := yz ((yy HS).below hy)
 replace HC : Hid (ap _ W1.heap.size L sa sc) := yz ((yy HC).kept hy)
 have hz4 : (W3.alloc (.cells #[.int .i64 A, .int .i64 B, .int .i64 C, .int .i64 D] 37)).heap.size = W3.heap.size + 1 := by simp
 clear hy
 go_upto_region 4 with fail
 generalize W3.alloc (.cells #[.int .i64 A, .int .i64 B, .int .i64 C, .int .i64 D] 37) = W4 at *
 generalize W3.heap.size = tb at *
 have htb : w.heap.size + 2 < tb := by omega
 by_cases h1 : (1 : Int) < (L.length : Int)
 ·have hpos : 0 < L.length := by omega
  obtain ⟨g, hga⟩ := fl (yy HC) hpos
  subst hga
  go_wp2_with fail
  refine (bO (w.heap.size + 2) 4 W4 (yy HS) (by omega)).mono ?_
  rintro e W5 ⟨y, rfl, hS5, hg5⟩
  replace HR := yz (an (yy HR) hg5 (hnb _ (by omega)))
  replace HR2 := yz (an (yy HR2) hg5 (hnb _ (by omega)))
  replace HB := yz (aK (yy HB) hg5 (yy HB).size (fun q e => by have := Option.some.inj e; omega))
  replace HC : Hid (ap W5 W1.heap.size L (some ⟨g, 0, none⟩) sc) := yz (World.ownsRow.kept (yy HC) hg5 (bC (yy HC) hlt))
  replace HT := yz (an (yy HT) hg5 (fun e => by have := Option.some.inj e; omega))
  replace HS := yz hS5
  have hz5 := hg5.size
  clear hS5 hg5
  cases y
  ·go_upto_region 5 with fail
   have HKS : Hid (∀ w' : World, Blk w' tb [.int .i64 A, .int .i64 B, .int .i64 C, .int .i64 D] 37 → w'.cell? ⟨tb, 0, none⟩ = some (.int .i64 A) ∧ w'.cell? ⟨tb, 1, none⟩ = some (.int .i64 B) ∧ w'.cell? ⟨tb, 2, none⟩ = some (.int .i64 C) ∧ w'.cell? ⟨tb, 3, none⟩ = some (.int .i64 D)) := yz (fun w' hu => ⟨hu.cell 0 _ rfl, hu.cell 1 _ rfl, hu.cell 2 _ rfl, hu.cell 3 _ rfl⟩)
   refine wp_region_held_drew (S := (fun w' => w'.cell? ⟨tb, 0, none⟩ = some (.int .i64 A) ∧ w'.cell? ⟨tb, 1, none⟩ = some (.int .i64 B) ∧ w'.cell? ⟨tb, 2, none⟩ = some (.int .i64 C) ∧ w'.cell? ⟨tb, 3, none⟩ = some (.int .i64 D))) (by kernel_rfl) (yy HKS W5.drew (yy HT)) (fun hHeld => ?_)
   replace HR : Hid (Blk W5.drew _ _ _) := HR
   replace HR2 : Hid (Blk W5.drew _ _ _) := HR2
   replace HT : Hid (Blk W5.drew _ _ _) := HT
   replace HC : Hid (ap _ W1.heap.size L (some ⟨g, 0, none⟩) sc) := yz ((yy HC).kept (Below.refl W5.heap.size W5).drew)
   replace HS := yz ((yy HS).below (Below.refl W5.heap.size W5).drew)
   replace HB := yz (ak (yy HB) (Below.refl W5.heap.size W5).drew)
   obtain ⟨V0, HYY⟩ : ∃ YY, YY = W5.drew := ⟨_, rfl⟩
   rw [← HYY] at HR HR2 HT HC HS HB hHeld ⊢
   clear HYY
   refine wpAnyH_take (i := 0) (oi := ({ dst := some 23, op := Op.move (Operand.tmp 6), type := 23, pos := "l04_sky.go:248", after := #[], guard := none } : Oper)) (v := ?_) rfl (by kernel_rfl) (by kernel_rfl) (by kernel_rfl) (fun _ _ _ h => h) (Or.inl ⟨by kernel_rfl, ?_⟩) (by assumption) ?_
   rotate_left
   ·intro W0 hSw; (try dsimp only at hSw); go_simp <;> with_reducible rfl
   try simp only [Act.put, ah, ai, aj]
   refine wpAnyH_take (i := 1) (oi := ({ dst := some 24, op := Op.load 37 (Operand.tmp 7), type := 37, pos := "l04_sky.go:248", after := #[], guard := none } : Oper)) (v := ?_) rfl (by kernel_rfl) (by kernel_rfl) (by kernel_rfl) (fun _ _ _ h => h) (Or.inl ⟨by kernel_rfl, ?_⟩) (by assumption) ?_
   rotate_left
   ·intro W0 hSw; (try dsimp only at hSw); go_simp <;> with_reducible rfl
   try simp only [Act.put, ah, ai, aj]
   refine wpAnyH_take (i := 2) (oi := ({ dst := some 25, op := Op.move (Operand.tmp 6), type := 23, pos := "l04_sky.go:248", after := #[], guard := none } : Oper)) (v := ?_) rfl (by kernel_rfl) (by kernel_rfl) (by kernel_rfl) (fun _ _ _ h => h) (Or.inl ⟨by kernel_rfl, ?_⟩) (by assumption) ?_
   rotate_left
   ·intro W0 hSw; (try dsimp only at hSw); go_simp <;> with_reducible rfl
   try simp only [Act.put, ah, ai, aj]
   refine wpAnyH_take (i := 3) (oi := ({ dst := some 26, op := Op.move (Operand.tmp 5), type := 57, pos := "l04_sky.go:248", after := #[], guard := none } : Oper)) (v := ?_) rfl (by kernel_rfl) (by kernel_rfl) (by kernel_rfl) (fun _ _ _ h => h) (Or.inl ⟨by kernel_rfl, ?_⟩) (by assumption) ?_
   rotate_left
   ·intro W0 hSw; (try dsimp only at hSw); go_simp <;> with_reducible rfl
   try simp only [Act.put, ah, ai, aj]
   refine wpAnyH_take (i := 4) (oi := ({ dst := some 27, op := Op.move (Operand.tmp 6), type := 23, pos := "l04_sky.go:248", after := #[], guard := none } : Oper)) (v := ?_) rfl (by kernel_rfl) (by kernel_rfl) (by kernel_rfl) (fun _ _ _ h => h) (Or.inl ⟨by kernel_rfl, ?_⟩) (by assumption) ?_
   rotate_left
   ·intro W0 hSw; (try dsimp only at hSw); go_simp <;> with_reducible rfl
   try simp only [Act.put, ah, ai, aj]
   refine wpAnyH_take (i := 5) (oi := ({ dst := some 28, op := Op.call { callee := Callee.builtin Builtin.len, args := #[Operand.tmp 27], argTypes := #[23] }, type := 3, pos := "l04_sky.go:248", after := #[{ on := 4, ground := Ground.data }], guard := none } : Oper)) (v := ?_) rfl (by kernel_rfl) (by kernel_rfl) (by kernel_rfl) (fun _ _ _ h => h) (Or.inl ⟨by kernel_rfl, ?_⟩) (by assumption) ?_
   rotate_left
   ·intro W0 hSw; (try dsimp only at hSw); go_simp <;> with_reducible rfl
   try simp only [Act.put, ah, ai, aj]
   refine wpAnyH_take (i := 11) (oi := ({ dst := some 34, op := Op.load 37 (Operand.tmp 7), type := 37, pos := "l04_sky.go:248", after := #[], guard := none } : Oper)) (v := ?_) rfl (by kernel_rfl) (by kernel_rfl) (by kernel_rfl) (fun _ _ _ h => h) (Or.inl ⟨by kernel_rfl, ?_⟩) (by assumption) ?_
   rotate_left
   ·intro W0 hSw; (try dsimp only at hSw); go_simp <;> with_reducible rfl
   try simp only [Act.put, ah, ai, aj]
   refine wpAnyH_take (i := 12) (oi := ({ dst := some 35, op := Op.move (Operand.tmp 6), type := 23, pos := "l04_sky.go:248", after := #[], guard := none } : Oper)) (v := ?_) rfl (by kernel_rfl) (by kernel_rfl) (by kernel_rfl) (fun _ _ _ h => h) (Or.inl ⟨by kernel_rfl, ?_⟩) (by assumption) ?_
   rotate_left
   ·intro W0 hSw; (try dsimp only at hSw); go_simp <;> with_reducible rfl
   try simp only [Act.put, ah, ai, aj]
   refine wpAnyH_take (i := 13) (oi := ({ dst := some 36, op := Op.move (Operand.tmp 5), type := 57, pos := "l04_sky.go:248", after := #[], guard := none } : Oper)) (v := ?_) rfl (by kernel_rfl) (by kernel_rfl) (by kernel_rfl) (fun _ _ _ h => h) (Or.inl ⟨by kernel_rfl, ?_⟩) (by assumption) ?_
   rotate_left
   ·intro W0 hSw; (try dsimp only at hSw); go_simp <;> with_reducible rfl
   try simp only [Act.put, ah, ai, aj]
   refine wpAnyH_take (i := 14) (oi := ({ dst := some 37, op := Op.move (Operand.tmp 6), type := 23, pos := "l04_sky.go:248", after := #[], guard := none } : Oper)) (v := ?_) rfl (by kernel_rfl) (by kernel_rfl) (by kernel_rfl) (fun _ _ _ h => h) (Or.inl ⟨by kernel_rfl, ?_⟩) (by assumption) ?_
   rotate_left
   ·intro W0 hSw; (try dsimp only at hSw); go_simp <;> with_reducible rfl
   try simp only [Act.put, ah, ai, aj]
   refine wpAnyH_take (i := 15) (oi := ({ dst := some 38, op := Op.call { callee := Callee.builtin Builtin.len, args := #[Operand.tmp 37], argTypes := #[23] }, type := 3, pos := "l04_sky.go:248", after := #[{ on := 14, ground := Ground.data }], guard := none } : Oper)) (v := ?_) rfl (by kernel_rfl) (by kernel_rfl) (by kernel_rfl) (fun _ _ _ h => h) (Or.inl ⟨by kernel_rfl, ?_⟩) (by assumption) ?_
   rotate_left
   ·intro W0 hSw; (try dsimp only at hSw); go_simp <;> with_reducible rfl
   try simp only [Act.put, ah, ai, aj]
   refine wpAnyH_ready (rs := [6]) (by kernel_rfl) (by simp) ?_
   refine (AllReadyH.cons rfl (fun K hK => ?_) AllReadyH.nil)
   go_simp
   refine (aT (w.heap.size + 2) (L.length : Int) V0 (yy HS) (by omega)).mono ?_
   rintro e Q1 ⟨k, rfl, k0, k1, _, hS8, hg8⟩
   replace k1 := k1 (by omega)
   obtain ⟨k, rfl⟩ := Int.eq_ofNat_of_zero_le k0
   have hk : k < L.length := by omega
   have hk2 : (k : Int) < (L.length : Int) := by omega
   replace HR := yz (an (yy HR) hg8 (hnb _ (by omega)))
   replace HR2 := yz (an (yy HR2) hg8 (hnb _ (by omega)))
   replace HB := yz (aK (yy HB) hg8 (yy HB).size (fun q e => by have := Option.some.inj e; omega))
   replace HC : Hid (ap Q1 W1.heap.size L (some ⟨g, 0, none⟩) sc) := yz (World.ownsRow.kept (yy HC) hg8 (bC (yy HC) hlt))
   replace HT := yz (an (yy HT) hg8 (fun e => by have := Option.some.inj e; omega))
   replace HS := yz hS8
   clear hS8 hg8 k1 k0
   refine hK.out _ _ ?_ (fun hHeld1 => ?_)
   ·exact yy HKS _ (yy HT)
   clear hK K
   refine wpAnyH_take (i := 7) (oi := ({ dst := some 30, op := Op.indexAddr 23 (Operand.tmp 25) (Operand.tmp 29), type := 0, pos := "l04_sky.go:248", after := #[{ on := 2, ground := Ground.data }, { on := 6, ground := Ground.data }], guard := none } : Oper)) (v := ?_) rfl (by kernel_rfl) (by kernel_rfl) (by kernel_rfl) (fun _ _ _ h => h) (Or.inl ⟨by kernel_rfl, ?_⟩) (by assumption) ?_
   rotate_left
   ·intro W0 hSw; (try dsimp only at hSw); go_simp <;> with_reducible rfl
   try simp only [Act.put, ah, ai, aj]
   refine wpAnyH_take (i := 8) (oi := ({ dst := some 31, op := Op.fieldAddr 62 (Operand.tmp 30) 1, type := 0, pos := "l04_sky.go:248", after := #[{ on := 7, ground := Ground.data }], guard := none } : Oper)) (v := ?_) rfl (by kernel_rfl) (by kernel_rfl) (by kernel_rfl) (fun _ _ _ h => h) (Or.inl ⟨by kernel_rfl, ?_⟩) (by assumption) ?_
   rotate_left
   ·intro W0 hSw; (try dsimp only at hSw); go_simp <;> with_reducible rfl
   try simp only [Act.put, ah, ai, aj]
   refine wpAnyH_ready (rs := [9]) (by kernel_rfl) (by simp) ?_
   refine (AllReadyH.cons rfl (fun K hK => ?_) AllReadyH.nil)
   obtain ⟨⟨ss0, ss1, ss2, ss3⟩, hss⟩ : ∃ s, stA L k = s := ⟨_, rfl⟩
   have cs1 := (bh (yy HC) hk 1 (by decide)).1
   have cs2 := (bh (yy HC) hk 2 (by decide)).1
   have cs3 := (bh (yy HC) hk 3 (by decide)).1
   rw [hss] at cs1
   rw [hss] at cs2
   rw [hss] at cs3
   replace cs1 : Q1.cell? ⟨g, k * 4 + 1, none⟩ = some (.int .i64 ss1) := cs1
   replace cs2 : Q1.cell? ⟨g, k * 4 + 2, none⟩ = some (.int .i64 ss2) := cs2
   replace cs3 : Q1.cell? ⟨g, k * 4 + 3, none⟩ = some (.int .i64 ss3) := cs3
   go_simp
   refine hK.out _ _ ?_ (fun hHeld2 => ?_)
   ·exact yy HKS _ (yy HT)
   clear hK K
   refine wpAnyH_ready (rs := [10]) (by kernel_rfl) (by simp) ?_
   refine (AllReadyH.cons rfl (fun K hK => ?_) AllReadyH.nil)
   go_simp
   refine (gh A B C D ss1 ss2 ss3 Q1).mono ?_
   rintro e Q3 ⟨rfl, hx⟩
   replace HR := yz ((yy HR).kept hx)
   replace HR2 := yz ((yy HR2).kept hx)
   replace HB := yz (ak (yy HB) hx)
   replace HS := yz ((yy HS).below hx)
   replace HT := yz ((yy HT).kept hx)
   replace HC : Hid (ap Q3 W1.heap.size L (some ⟨g, 0, none⟩) sc) := yz ((yy HC).kept hx)
   clear hx cs1 cs2 cs3
   generalize apI (apR A B C D ss1 ss2 ss3) (apX A B C D ss1 ss2 ss3) = p1 at *
   generalize apI (apR A B C D ss1 ss2 ss3) (apY A B C D ss1 ss2 ss3) = p2 at *
   generalize apI (apR A B C D ss1 ss2 ss3) (apZ A B C D ss1 ss2 ss3) = p3 at *
   refine hK.out _ _ ?_ (fun hHeld3 => ?_)
   ·exact yy HKS _ (yy HT)
   clear hK K
   refine wpAnyH_ready (rs := [16]) (by kernel_rfl) (by simp) ?_
   refine (AllReadyH.cons rfl (fun K hK => ?_) AllReadyH.nil)
   go_simp
   refine (aT (w.heap.size + 2) (L.length : Int) Q3 (yy HS) (by omega)).mono ?_
   rintro e Q4 ⟨m, rfl, k0, k1, _, hS8, hg8⟩
   replace k1 := k1 (by omega)
   obtain ⟨m, rfl⟩ := Int.eq_ofNat_of_zero_le k0
   have hm : m < L.length := by omega
   have hm2 : (m : Int) < (L.length : Int) := by omega
   replace HR := yz (an (yy HR) hg8 (hnb _ (by omega)))
   replace HR2 := yz (an (yy HR2) hg8 (hnb _ (by omega)))
   replace HB := yz (aK (yy HB) hg8 (yy HB).size (fun q e => by have := Option.some.inj e; omega))
   replace HC : Hid (ap Q4 W1.heap.size L (some ⟨g, 0, none⟩) sc) := yz (World.ownsRow.kept (yy HC) hg8 (bC (yy HC) hlt))
   replace HT := yz (an (yy HT) hg8 (fun e => by have := Option.some.inj e; omega))
   replace HS := yz hS8
   clear hS8 hg8 k1 k0
   refine hK.out _ _ ?_ (fun hHeld4 => ?_)
   ·exact yy HKS _ (yy HT)
   clear hK K
   refine wpAnyH_take (i := 17) (oi := ({ dst := some 40, op := Op.indexAddr 23 (Operand.tmp 35) (Operand.tmp 39), type := 0, pos := "l04_sky.go:248", after := #[{ on := 12, ground := Ground.data }, { on := 16, ground := Ground.data }], guard := none } : Oper)) (v := ?_) rfl (by kernel_rfl) (by kernel_rfl) (by kernel_rfl) (fun _ _ _ h => h) (Or.inl ⟨by kernel_rfl, ?_⟩) (by assumption) ?_
   rotate_left
   ·intro W0 hSw; (try dsimp only at hSw); go_simp <;> with_reducible rfl
   try simp only [Act.put, ah, ai, aj]
   refine wpAnyH_take (i := 18) (oi := ({ dst := some 41, op := Op.fieldAddr 62 (Operand.tmp 40) 1, type := 0, pos := "l04_sky.go:248", after := #[{ on := 17, ground := Ground.data }], guard := none } : Oper)) (v := ?_) rfl (by kernel_rfl) (by kernel_rfl) (by kernel_rfl) (fun _ _ _ h => h) (Or.inl ⟨by kernel_rfl, ?_⟩) (by assumption) ?_
   rotate_left
   ·intro W0 hSw; (try dsimp only at hSw); go_simp <;> with_reducible rfl
   try simp only [Act.put, ah, ai, aj]
   refine wpAnyH_ready (rs := [19]) (by kernel_rfl) (by simp) ?_
   refine (AllReadyH.cons rfl (fun K hK => ?_) AllReadyH.nil)
   obtain ⟨⟨st0, st1, st2, st3⟩, hst⟩ : ∃ s, stA L m = s := ⟨_, rfl⟩
   have ct1 := (bh (yy HC) hm 1 (by decide)).1
   have ct2 := (bh (yy HC) hm 2 (by decide)).1
   have ct3 := (bh (yy HC) hm 3 (by decide)).1
   rw [hst] at ct1
   rw [hst] at ct2
   rw [hst] at ct3
   replace ct1 : Q4.cell? ⟨g, m * 4 + 1, none⟩ = some (.int .i64 st1) := ct1
   replace ct2 : Q4.cell? ⟨g, m * 4 + 2, none⟩ = some (.int .i64 st2) := ct2
   replace ct3 : Q4.cell? ⟨g, m * 4 + 3, none⟩ = some (.int .i64 st3) := ct3
   go_simp
   refine hK.out _ _ ?_ (fun hHeld5 => ?_)
   ·exact yy HKS _ (yy HT)
   clear hK K
   refine wpAnyH_ready (rs := [20]) (by kernel_rfl) (by simp) ?_
   refine (AllReadyH.cons rfl (fun K hK => ?_) AllReadyH.nil)
   go_simp
   refine (gh A B C D st1 st2 st3 Q4).mono ?_
   rintro e Q6 ⟨rfl, hx⟩
   replace HR := yz ((yy HR).kept hx)
   replace HR2 := yz ((yy HR2).kept hx)
   replace HB := yz (ak (yy HB) hx)
   replace HS := yz ((yy HS).below hx)
   replace HT := yz ((yy HT).kept hx)
   replace HC : Hid (ap Q6 W1.heap.size L (some ⟨g, 0, none⟩) sc) := yz ((yy HC).kept hx)
   clear hx ct1 ct2 ct3
   generalize apI (apR A B C D st1 st2 st3) (apX A B C D st1 st2 st3) = r1 at *
   generalize apI (apR A B C D st1 st2 st3) (apY A B C D st1 st2 st3) = r2 at *
   generalize apI (apR A B C D st1 st2 st3) (apZ A B C D st1 st2 st3) = r3 at *
   refine hK.out _ _ ?_ (fun hHeld6 => ?_)
   ·exact yy HKS _ (yy HT)
   clear hK K
   refine wpAnyH_ready (rs := [21]) (by kernel_rfl) (by simp) ?_
   refine (AllReadyH.cons rfl (fun K hK => ?_) AllReadyH.nil)
   go_simp
   refine hK.out _ _ ?_ (fun hHeld7 => ?_)
   ·exact yy HKS _ (yy HT)
   clear hK K
   refine wpAnyH_ready (rs := [22]) (by kernel_rfl) (by simp) ?_
   refine (AllReadyH.cons rfl (fun K hK => ?_) AllReadyH.nil)
   obtain ⟨y0, y1, y2⟩ : Q6.cell? ⟨w.heap.size, 0, none⟩ = some (.int .i64 0) ∧ Q6.cell? ⟨w.heap.size, 1, none⟩ = some (.int .i64 0) ∧ Q6.cell? ⟨w.heap.size, 2, none⟩ = some (.int .i64 0) := ⟨(yy HR).cell 0 _ rfl, (yy HR).cell 1 _ rfl, (yy HR).cell 2 _ rfl⟩
   obtain ⟨z0, z1, z2⟩ : Q6.frozen? ⟨w.heap.size, 0, none⟩ = false ∧ Q6.frozen? ⟨w.heap.size, 1, none⟩ = false ∧ Q6.frozen? ⟨w.heap.size, 2, none⟩ = false := ⟨(yy HR).free 0, (yy HR).free 1, (yy HR).free 2⟩
   have hraw := yy HR
   go_simp
   have hgq := fI Q6 (w.heap.size) (.int .i64 p1) (.int .i64 p2) (.int .i64 p3)
   replace HR := yz (lm (yy HR) (.int .i64 p1) (.int .i64 p2) (.int .i64 p3))
   replace HR2 := yz (an (yy HR2) hgq (fun e => by have h1 := Option.some.inj e; omega))
   replace HT := yz (an (yy HT) hgq (fun e => by have h1 := Option.some.inj e; omega))
   replace HC : Hid (ap _ W1.heap.size L (some ⟨g, 0, none⟩) sc) := yz (World.ownsRow.kept (yy HC) hgq (cl (yy HC) hraw (by decide)))
   replace HB := yz (aK (yy HB) hgq (yy HB).size (fun q e => by have h1 := Option.some.inj e; omega))
   clear hraw hgq y0 y1 y2 z0 z1 z2
   refine hK.out _ _ ?_ (fun hHeld8 => ?_)
   ·exact yy HKS _ (yy HT)
   clear hK K
   generalize (((Q6.setCell ⟨w.heap.size, 0, none⟩ (.int .i64 p1)).setCell ⟨w.heap.size, 1, none⟩ (.int .i64 p2)).setCell ⟨w.heap.size, 2, none⟩ (.int .i64 p3)) = X8 at *
   refine wpAnyH_ready (rs := [23]) (by kernel_rfl) (by simp) ?_
   refine (AllReadyH.cons rfl (fun K hK => ?_) AllReadyH.nil)
   obtain ⟨y0, y1, y2⟩ : X8.cell? ⟨w.heap.size + 1, 0, none⟩ = some (.int .i64 0) ∧ X8.cell? ⟨w.heap.size + 1, 1, none⟩ = some (.int .i64 0) ∧ X8.cell? ⟨w.heap.size + 1, 2, none⟩ = some (.int .i64 0) := ⟨(yy HR2).cell 0 _ rfl, (yy HR2).cell 1 _ rfl, (yy HR2).cell 2 _ rfl⟩
   obtain ⟨z0, z1, z2⟩ : X8.frozen? ⟨w.heap.size + 1, 0, none⟩ = false ∧ X8.frozen? ⟨w.heap.size + 1, 1, none⟩ = false ∧ X8.frozen? ⟨w.heap.size + 1, 2, none⟩ = false := ⟨(yy HR2).free 0, (yy HR2).free 1, (yy HR2).free 2⟩
   have hraw := yy HR2
   go_simp
   have hgq := fI X8 (w.heap.size + 1) (.int .i64 r1) (.int .i64 r2) (.int .i64 r3)
   replace HR2 := yz (lm (yy HR2) (.int .i64 r1) (.int .i64 r2) (.int .i64 r3))
   replace HR := yz (an (yy HR) hgq (fun e => by have h1 := Option.some.inj e; omega))
   replace HT := yz (an (yy HT) hgq (fun e => by have h1 := Option.some.inj e; omega))
   replace HC : Hid (ap _ W1.heap.size L (some ⟨g, 0, none⟩) sc) := yz (World.ownsRow.kept (yy HC) hgq (cl (yy HC) hraw (by decide)))
   replace HB := yz (aK (yy HB) hgq (yy HB).size (fun q e => by have h1 := Option.some.inj e; omega))
   clear hraw hgq y0 y1 y2 z0 z1 z2
   refine hK.out _ _ ?_ (fun hHeld9 => ?_)
   ·exact yy HKS _ (yy HT)
   clear hK K
   generalize (((X8.setCell ⟨w.heap.size + 1, 0, none⟩ (.int .i64 r1)).setCell ⟨w.heap.size + 1, 1, none⟩ (.int .i64 r2)).setCell ⟨w.heap.size + 1, 2, none⟩ (.int .i64 r3)) = X9 at *
   refine wpAnyH_done (by kernel_rfl) ?_ _
   go_wp2_with fail
   refine bodyPost_ret (v := .tuple #[.slice (some ⟨g, 0, none⟩) L.length sc, .agg #[.int .i64 p1, .int .i64 p2, .int .i64 p3], .agg #[.int .i64 r1, .int .i64 r2, .int .i64 r3]]) (oZ _ _ w.heap.size (w.heap.size + 1) _ _ _ _ _ _ _ rfl rfl rfl (yy HR) (yy HR2)) rfl ⟨L, _, sc, p1, p2, p3, r1, r2, r3, rfl, hll, World.ownsRow.mono (yy HC) (by omega), yy HB⟩
  ·go_wp2_with fail
   refine (jI (w.heap.size + 2) W5 (yy HS)).mono ?_
   rintro e Y1 ⟨a1, a2, a3, rfl, hS6, hg6⟩
   replace HR := yz (an (yy HR) hg6 (hnb _ (by omega)))
   replace HR2 := yz (an (yy HR2) hg6 (hnb _ (by omega)))
   replace HB := yz (aK (yy HB) hg6 (yy HB).size (fun q e => by have := Option.some.inj e; omega))
   replace HC : Hid (ap Y1 W1.heap.size L (some ⟨g, 0, none⟩) sc) := yz (World.ownsRow.kept (yy HC) hg6 (bC (yy HC) hlt))
   replace HS := yz hS6
   have hz6 := hg6.size
   clear hS6 hg6
   have hy := am Y1 (.cells #[.int .i64 a1, .int .i64 a2, .int .i64 a3] 33)
   have HV := yz (bj Y1 [.int .i64 a1, .int .i64 a2, .int .i64 a3] 33)
   replace HR := yz ((yy HR).kept hy)
   replace HR2 := yz ((yy HR2).kept hy)
   replace HB := yz (ak (yy HB) hy)
   replace HS := yz ((yy HS).below hy)
   replace HC : Hid (ap _ W1.heap.size L (some ⟨g, 0, none⟩) sc) := yz ((yy HC).kept hy)
   have hz7 : (Y1.alloc (.cells #[.int .i64 a1, .int .i64 a2, .int .i64 a3] 33)).heap.size = Y1.heap.size + 1 := by simp
   clear hy
   go_upto_region 7 with fail
   generalize Y1.alloc (.cells #[.int .i64 a1, .int .i64 a2, .int .i64 a3] 33) = Y2 at *
   have hvb : tb < Y1.heap.size := by omega
   generalize Y1.heap.size = vb at *
   have HKS : Hid (∀ w' : World, Blk w' vb [.int .i64 a1, .int .i64 a2, .int .i64 a3] 33 → w'.cell? ⟨vb, 0, none⟩ = some (.int .i64 a1) ∧ w'.cell? ⟨vb, 1, none⟩ = some (.int .i64 a2) ∧ w'.cell? ⟨vb, 2, none⟩ = some (.int .i64 a3)) := yz (fun w' hu => ⟨hu.cell 0 _ rfl, hu.cell 1 _ rfl, hu.cell 2 _ rfl⟩)
   refine wp_region_held_drew (S := (fun w' => w'.cell? ⟨vb, 0, none⟩ = some (.int .i64 a1) ∧ w'.cell? ⟨vb, 1, none⟩ = some (.int .i64 a2) ∧ w'.cell? ⟨vb, 2, none⟩ = some (.int .i64 a3))) (by kernel_rfl) (yy HKS Y2.drew (yy HV)) (fun hHeld => ?_)
   replace HR : Hid (Blk Y2.drew _ _ _) := HR
   replace HR2 : Hid (Blk Y2.drew _ _ _) := HR2
   replace HV : Hid (Blk Y2.drew _ _ _) := HV
   replace HC : Hid (ap _ W1.heap.size L (some ⟨g, 0, none⟩) sc) := yz ((yy HC).kept (Below.refl Y2.heap.size Y2).drew)
   replace HS := yz ((yy HS).below (Below.refl Y2.heap.size Y2).drew)
   replace HB := yz (ak (yy HB) (Below.refl Y2.heap.size Y2).drew)
   obtain ⟨V0, HYY⟩ : ∃ YY, YY = Y2.drew := ⟨_, rfl⟩
   rw [← HYY] at HR HR2 HV HC HS HB hHeld ⊢
   clear HYY
   refine ac 0 rfl ?_
   try simp only [Act.put, ah, ai, aj]
   refine ac 1 rfl ?_
   try simp only [Act.put, ah, ai, aj]
   refine ac 2 rfl ?_
   try simp only [Act.put, ah, ai, aj]
   refine wpAnyH_ready (rs := [3]) (by kernel_rfl) (by simp) ?_
   refine (AllReadyH.cons rfl (fun K hK => ?_) AllReadyH.nil)
   go_simp
   refine (jI (w.heap.size + 2) V0 (yy HS)).mono ?_
   rintro e Q1 ⟨b1, b2, b3, rfl, hS8, hg8⟩
   replace HR := yz (an (yy HR) hg8 (hnb _ (by omega)))
   replace HR2 := yz (an (yy HR2) hg8 (hnb _ (by omega)))
   replace HB := yz (aK (yy HB) hg8 (yy HB).size (fun q e => by have := Option.some.inj e; omega))
   replace HC : Hid (ap Q1 W1.heap.size L (some ⟨g, 0, none⟩) sc) := yz (World.ownsRow.kept (yy HC) hg8 (bC (yy HC) hlt))
   replace HV := yz (an (yy HV) hg8 (fun e => by have := Option.some.inj e; omega))
   clear hS8 hg8 HS
   refine hK.out _ _ ?_ (fun hHeld1 => ?_)
   ·exact yy HKS _ (yy HV)
   clear hK K
   refine wpAnyH_ready (rs := [4]) (by kernel_rfl) (by simp) ?_
   refine (AllReadyH.cons rfl (fun K hK => ?_) AllReadyH.nil)
   go_simp
   refine hK.out _ _ ?_ (fun hHeld2 => ?_)
   ·exact yy HKS _ (yy HV)
   clear hK K
   refine wpAnyH_ready (rs := [5]) (by kernel_rfl) (by simp) ?_
   refine (AllReadyH.cons rfl (fun K hK => ?_) AllReadyH.nil)
   obtain ⟨y0, y1, y2⟩ : Q1.cell? ⟨w.heap.size, 0, none⟩ = some (.int .i64 0) ∧ Q1.cell? ⟨w.heap.size, 1, none⟩ = some (.int .i64 0) ∧ Q1.cell? ⟨w.heap.size, 2, none⟩ = some (.int .i64 0) := ⟨(yy HR).cell 0 _ rfl, (yy HR).cell 1 _ rfl, (yy HR).cell 2 _ rfl⟩
   obtain ⟨z0, z1, z2⟩ : Q1.frozen? ⟨w.heap.size, 0, none⟩ = false ∧ Q1.frozen? ⟨w.heap.size, 1, none⟩ = false ∧ Q1.frozen? ⟨w.heap.size, 2, none⟩ = false := ⟨(yy HR).free 0, (yy HR).free 1, (yy HR).free 2⟩
   have hraw := yy HR
   go_simp
   have hgq := fI Q1 (w.heap.size) (.int .i64 a1) (.int .i64 a2) (.int .i64 a3)
   replace HR := yz (lm (yy HR) (.int .i64 a1) (.int .i64 a2) (.int .i64 a3))
   replace HR2 := yz (an (yy HR2) hgq (fun e => by have h1 := Option.some.inj e; omega))
   replace HV := yz (an (yy HV) hgq (fun e => by have h1 := Option.some.inj e; omega))
   replace HC : Hid (ap _ W1.heap.size L (some ⟨g, 0, none⟩) sc) := yz (World.ownsRow.kept (yy HC) hgq (cl (yy HC) hraw (by decide)))
   replace HB := yz (aK (yy HB) hgq (yy HB).size (fun q e => by have h1 := Option.some.inj e; omega))
   clear hraw hgq y0 y1 y2 z0 z1 z2
   refine hK.out _ _ ?_ (fun hHeld3 => ?_)
   ·exact yy HKS _ (yy HV)
   clear hK K
   generalize (((Q1.setCell ⟨w.heap.size, 0, none⟩ (.int .i64 a1)).setCell ⟨w.heap.size, 1, none⟩ (.int .i64 a2)).setCell ⟨w.heap.size, 2, none⟩ (.int .i64 a3)) = X3 at *
   refine wpAnyH_ready (rs := [6]) (by kernel_rfl) (by simp) ?_
   refine (AllReadyH.cons rfl (fun K hK => ?_) AllReadyH.nil)
   obtain ⟨y0, y1, y2⟩ : X3.cell? ⟨w.heap.size + 1, 0, none⟩ = some (.int .i64 0) ∧ X3.cell? ⟨w.heap.size + 1, 1, none⟩ = some (.int .i64 0) ∧ X3.cell? ⟨w.heap.size + 1, 2, none⟩ = some (.int .i64 0) := ⟨(yy HR2).cell 0 _ rfl, (yy HR2).cell 1 _ rfl, (yy HR2).cell 2 _ rfl⟩
   obtain ⟨z0, z1, z2⟩ : X3.frozen? ⟨w.heap.size + 1, 0, none⟩ = false ∧ X3.frozen? ⟨w.heap.size + 1, 1, none⟩ = false ∧ X3.frozen? ⟨w.heap.size + 1, 2, none⟩ = false := ⟨(yy HR2).free 0, (yy HR2).free 1, (yy HR2).free 2⟩
   have hraw := yy HR2
   go_simp
   have hgq := fI X3 (w.heap.size + 1) (.int .i64 b1) (.int .i64 b2) (.int .i64 b3)
   replace HR2 := yz (lm (yy HR2) (.int .i64 b1) (.int .i64 b2) (.int .i64 b3))
   replace HR := yz (an (yy HR) hgq (fun e => by have h1 := Option.some.inj e; omega))
   replace HV := yz (an (yy HV) hgq (fun e => by have h1 := Option.some.inj e; omega))
   replace HC : Hid (ap _ W1.heap.size L (some ⟨g, 0, none⟩) sc) := yz (World.ownsRow.kept (yy HC) hgq (cl (yy HC) hraw (by decide)))
   replace HB := yz (aK (yy HB) hgq (yy HB).size (fun q e => by have h1 := Option.some.inj e; omega))
   clear hraw hgq y0 y1 y2 z0 z1 z2
   refine hK.out _ _ ?_ (fun hHeld4 => ?_)
   ·exact yy HKS _ (yy HV)
   clear hK K
   generalize (((X3.setCell ⟨w.heap.size + 1, 0, none⟩ (.int .i64 b1)).setCell ⟨w.heap.size + 1, 1, none⟩ (.int .i64 b2)).setCell ⟨w.heap.size + 1, 2, none⟩ (.int .i64 b3)) = X4 at *
   refine wpAnyH_done (by kernel_rfl) ?_ _
   go_wp2_with fail
   refine bodyPost_ret (v := .tuple #[.slice (some ⟨g, 0, none⟩) L.length sc, .agg #[.int .i64 a1, .int .i64 a2, .int .i64 a3], .agg #[.int .i64 b1, .int .i64 b2, .int .i64 b3]]) (oZ _ _ w.heap.size (w.heap.size + 1) _ _ _ _ _ _ _ rfl rfl rfl (yy HR) (yy HR2)) rfl ⟨L, _, sc, a1, a2, a3, b1, b2, b3, rfl, hll, World.ownsRow.mono (yy HC) (by omega), yy HB⟩
 ·go_wp2_with fail
  refine (jI (w.heap.size + 2) W4 (yy HS)).mono ?_
  rintro e Y1 ⟨a1, a2, a3, rfl, hS6, hg6⟩
  replace HR := yz (an (yy HR) hg6 (hnb _ (by omega)))
  replace HR2 := yz (an (yy HR2) hg6 (hnb _ (by omega)))
  replace HB := yz (aK (yy HB) hg6 (yy HB).size (fun q e => by have := Option.some.inj e; omega))
  replace HC : Hid (ap Y1 W1.heap.size L sa sc) := yz (World.ownsRow.kept (yy HC) hg6 (bC (yy HC) hlt))
  replace HS := yz hS6
  have hz6 := hg6.size
  clear hS6 hg6
  have hy := am Y1 (.cells #[.int .i64 a1, .int .i64 a2, .int .i64 a3] 33)
  have HV := yz (bj Y1 [.int .i64 a1, .int .i64 a2, .int .i64 a3] 33)
  replace HR := yz ((yy HR).kept hy)
  replace HR2 := yz ((yy HR2).kept hy)
  replace HB := yz (ak (yy HB) hy)
  replace HS := yz ((yy HS).below hy)
  replace HC : Hid (ap _ W1.heap.size L sa sc) := yz ((yy HC).kept hy)
  have hz7 : (Y1.alloc (.cells #[.int .i64 a1, .int .i64 a2, .int .i64 a3] 33)).heap.size = Y1.heap.size + 1 := by simp
  clear hy
  go_upto_region 7 with fail
  generalize Y1.alloc (.cells #[.int .i64 a1, .int .i64 a2, .int .i64 a3] 33) = Y2 at *
  have hvb : tb < Y1.heap.size := by omega
  generalize Y1.heap.size = vb at *
  have HKS : Hid (∀ w' : World, Blk w' vb [.int .i64 a1, .int .i64 a2, .int .i64 a3] 33 → w'.cell? ⟨vb, 0, none⟩ = some (.int .i64 a1) ∧ w'.cell? ⟨vb, 1, none⟩ = some (.int .i64 a2) ∧ w'.cell? ⟨vb, 2, none⟩ = some (.int .i64 a3)) := yz (fun w' hu => ⟨hu.cell 0 _ rfl, hu.cell 1 _ rfl, hu.cell 2 _ rfl⟩)
  refine wp_region_held_drew (S := (fun w' => w'.cell? ⟨vb, 0, none⟩ = some (.int .i64 a1) ∧ w'.cell? ⟨vb, 1, none⟩ = some (.int .i64 a2) ∧ w'.cell? ⟨vb, 2, none⟩ = some (.int .i64 a3))) (by kernel_rfl) (yy HKS Y2.drew (yy HV)) (fun hHeld => ?_)
  replace HR : Hid (Blk Y2.drew _ _ _) := HR
  replace HR2 : Hid (Blk Y2.drew _ _ _) := HR2
  replace HV : Hid (Blk Y2.drew _ _ _) := HV
  replace HC : Hid (ap _ W1.heap.size L sa sc) := yz ((yy HC).kept (Below.refl Y2.heap.size Y2).drew)
  replace HS := yz ((yy HS).below (Below.refl Y2.heap.size Y2).drew)
  replace HB := yz (ak (yy HB) (Below.refl Y2.heap.size Y2).drew)
  obtain ⟨V0, HYY⟩ : ∃ YY, YY = Y2.drew := ⟨_, rfl⟩
  rw [← HYY] at HR HR2 HV HC HS HB hHeld ⊢
  clear HYY
  refine ac 0 rfl ?_
  try simp only [Act.put, ah, ai, aj]
  refine ac 1 rfl ?_
  try simp only [Act.put, ah, ai, aj]
  refine ac 2 rfl ?_
  try simp only [Act.put, ah, ai, aj]
  refine wpAnyH_ready (rs := [3]) (by kernel_rfl) (by simp) ?_
  refine (AllReadyH.cons rfl (fun K hK => ?_) AllReadyH.nil)
  go_simp
  refine (jI (w.heap.size + 2) V0 (yy HS)).mono ?_
  rintro e Q1 ⟨b1, b2, b3, rfl, hS8, hg8⟩
  replace HR := yz (an (yy HR) hg8 (hnb _ (by omega)))
  replace HR2 := yz (an (yy HR2) hg8 (hnb _ (by omega)))
  replace HB := yz (aK (yy HB) hg8 (yy HB).size (fun q e => by have := Option.some.inj e; omega))
  replace HC : Hid (ap Q1 W1.heap.size L sa sc) := yz (World.ownsRow.kept (yy HC) hg8 (bC (yy HC) hlt))
  replace HV := yz (an (yy HV) hg8 (fun e => by have := Option.some.inj e; omega))
  clear hS8 hg8 HS
  refine hK.out _ _ ?_ (fun hHeld1 => ?_)
  ·exact yy HKS _ (yy HV)
  clear hK K
  refine wpAnyH_ready (rs := [4]) (by kernel_rfl) (by simp) ?_
  refine (AllReadyH.cons rfl (fun K hK => ?_) AllReadyH.nil)
  go_simp
  refine hK.out _ _ ?_ (fun hHeld2 => ?_)
  ·exact yy HKS _ (yy HV)
  clear hK K
  refine wpAnyH_ready (rs := [5]) (by kernel_rfl) (by simp) ?_
  refine (AllReadyH.cons rfl (fun K hK => ?_) AllReadyH.nil)
  obtain ⟨y0, y1, y2⟩ : Q1.cell? ⟨w.heap.size, 0, none⟩ = some (.int .i64 0) ∧ Q1.cell? ⟨w.heap.size, 1, none⟩ = some (.int .i64 0) ∧ Q1.cell? ⟨w.heap.size, 2, none⟩ = some (.int .i64 0) := ⟨(yy HR).cell 0 _ rfl, (yy HR).cell 1 _ rfl, (yy HR).cell 2 _ rfl⟩
  obtain ⟨z0, z1, z2⟩ : Q1.frozen? ⟨w.heap.size, 0, none⟩ = false ∧ Q1.frozen? ⟨w.heap.size, 1, none⟩ = false ∧ Q1.frozen? ⟨w.heap.size, 2, none⟩ = false := ⟨(yy HR).free 0, (yy HR).free 1, (yy HR).free 2⟩
  have hraw := yy HR
  go_simp
  have hgq := fI Q1 (w.heap.size) (.int .i64 a1) (.int .i64 a2) (.int .i64 a3)
  replace HR := yz (lm (yy HR) (.int .i64 a1) (.int .i64 a2) (.int .i64 a3))
  replace HR2 := yz (an (yy HR2) hgq (fun e => by have h1 := Option.some.inj e; omega))
  replace HV := yz (an (yy HV) hgq (fun e => by have h1 := Option.some.inj e; omega))
  replace HC : Hid (ap _ W1.heap.size L sa sc) := yz (World.ownsRow.kept (yy HC) hgq (cl (yy HC) hraw (by decide)))
  replace HB := yz (aK (yy HB) hgq (yy HB).size (fun q e => by have h1 := Option.some.inj e; omega))
  clear hraw hgq y0 y1 y2 z0 z1 z2
  refine hK.out _ _ ?_ (fun hHeld3 => ?_)
  ·exact yy HKS _ (yy HV)
  clear hK K
  generalize (((Q1.setCell ⟨w.heap.size, 0, none⟩ (.int .i64 a1)).setCell ⟨w.heap.size, 1, none⟩ (.int .i64 a2)).setCell ⟨w.heap.size, 2, none⟩ (.int .i64 a3)) = X3 at *
  refine wpAnyH_ready (rs := [6]) (by kernel_rfl) (by simp) ?_
  refine (AllReadyH.cons rfl (fun K hK => ?_) AllReadyH.nil)
  obtain ⟨y0, y1, y2⟩ : X3.cell? ⟨w.heap.size + 1, 0, none⟩ = some (.int .i64 0) ∧ X3.cell? ⟨w.heap.size + 1, 1, none⟩ = some (.int .i64 0) ∧ X3.cell? ⟨w.heap.size + 1, 2, none⟩ = some (.int .i64 0) := ⟨(yy HR2).cell 0 _ rfl, (yy HR2).cell 1 _ rfl, (yy HR2).cell 2 _ rfl⟩
  obtain ⟨z0, z1, z2⟩ : X3.frozen? ⟨w.heap.size + 1, 0, none⟩ = false ∧ X3.frozen? ⟨w.heap.size + 1, 1, none⟩ = false ∧ X3.frozen? ⟨w.heap.size + 1, 2, none⟩ = false := ⟨(yy HR2).free 0, (yy HR2).free 1, (yy HR2).free 2⟩
  have hraw := yy HR2
  go_simp
  have hgq := fI X3 (w.heap.size + 1) (.int .i64 b1) (.int .i64 b2) (.int .i64 b3)
  replace HR2 := yz (lm (yy HR2) (.int .i64 b1) (.int .i64 b2) (.int .i64 b3))
  replace HR := yz (an (yy HR) hgq (fun e => by have h1 := Option.some.inj e; omega))
  replace HV := yz (an (yy HV) hgq (fun e => by have h1 := Option.some.inj e; omega))
  replace HC : Hid (ap _ W1.heap.size L sa sc) := yz (World.ownsRow.kept (yy HC) hgq (cl (yy HC) hraw (by decide)))
  replace HB := yz (aK (yy HB) hgq (yy HB).size (fun q e => by have h1 := Option.some.inj e; omega))
  clear hraw hgq y0 y1 y2 z0 z1 z2
  refine hK.out _ _ ?_ (fun hHeld4 => ?_)
  ·exact yy HKS _ (yy HV)
  clear hK K
  generalize (((X3.setCell ⟨w.heap.size + 1, 0, none⟩ (.int .i64 b1)).setCell ⟨w.heap.size + 1, 1, none⟩ (.int .i64 b2)).setCell ⟨w.heap.size + 1, 2, none⟩ (.int .i64 b3)) = X4 at *
  refine wpAnyH_done (by kernel_rfl) ?_ _
  go_wp2_with fail
  refine bodyPost_ret (v := .tuple #[.slice sa L.length sc, .agg #[.int .i64 a1, .int .i64 a2, .int .i64 a3], .agg #[.int .i64 b1, .int .i64 b2, .int .i64 b3]]) (oZ _ _ w.heap.size (w.heap.size + 1) _ _ _ _ _ _ _ rfl rfl rfl (yy HR) (yy HR2)) rfl ⟨L, sa, sc, a1, a2, a3, b1, b2, b3, rfl, hll, World.ownsRow.mono (yy HC) (by omega), yy HB⟩
def Prs (w : World) (a : Option Addr) (O : List P2) (n : Nat) : Prop := n = 0 ∨ ∃ b o, a = some ⟨b, o, none⟩ ∧ b < w.heap.size ∧ ∀ i, i < n → w.cell? ⟨b, o + i * 2, none⟩ = some (.int .i64 (prA O i).1) ∧ w.cell? ⟨b, o + i * 2 + 1, none⟩ = some (.int .i64 (prA O i).2)
theorem Prs.kept {w w' : World} {a : Option Addr} {O : List P2} {n : Nat} (h : Prs w a O n) (hB : Below w.heap.size w w') : Prs w' a O n := by
 rcases h with h | ⟨b, o, ha, hb, hc⟩
 ·exact .inl h
 ·exact .inr ⟨b, o, ha, Nat.lt_of_lt_of_le hb hB.size, fun i hi => ⟨by rw [hB.cell (p := ⟨b, o + i * 2, none⟩) hb]; exact (hc i hi).1, by rw [hB.cell (p := ⟨b, o + i * 2 + 1, none⟩) hb]; exact (hc i hi).2⟩⟩
theorem jF {w : World} {B : Nat} {v : Value} {O : List P2} (h : w.ownsRow B 52 2 v O.length (aD O)) : ∃ a k, v = .slice a O.length k ∧ Prs w a O O.length := by
 rcases h.2 with ⟨rfl, h0⟩ | ⟨g, cap, cur, rfl, hb, hg, h1, h2, h3, h4⟩
 ·exact ⟨none, 0, by rw [h0], .inl h0⟩
 ·refine ⟨_, cap, rfl, .inr ⟨g, 0, rfl, (Array.getElem?_eq_some_iff.1 hg).1, fun i hi => ?_⟩⟩
  obtain ⟨f1, f2⟩ := gL O i hi
  rw [Nat.zero_add]
  exact ⟨by rw [World.ownsRow.cellAt h (i * 2) (by omega), f1], by rw [World.ownsRow.cellAt h (i * 2 + 1) (by omega), f2]⟩
def eq (s : ByteArray) : List St := match eo s with | .ok L => L | .error _ => []
def gg (s : ByteArray) : Int := match eo s with | .ok _ => 0 | .error c => c
theorem lD {B : Nat} {s : ByteArray} {e : Ending} {w' : World} (h : mo B (eo s) e w') : ∃ a c, e = .returned (.agg #[.slice a (eq s).length c, .int .i64 (gg s)]) ∧ ap w' B (eq s) a c := by
 unfold mo at h
 unfold eq gg
 cases hr : eo s with
 | error k => rw [hr] at h; exact ⟨none, 0, h, ⟨rfl, .inl ⟨rfl, rfl⟩⟩⟩
 | ok L =>
  rw [hr] at h
  obtain ⟨v, rfl, ho⟩ := h
  obtain ⟨a, c, rfl, _⟩ := em ho
  exact ⟨a, c, rfl, ho⟩
theorem lG (s : ByteArray) (p : Addr) (w : World) (hs : s.size ≤ 1048576) (hE : aU p w) :
  Calls Tryz.prog 7 #[.string s] w fun e w' => (∃ a c, e = .returned (.agg #[.slice a (eq s).length c, .int .i64 (gg s)]) ∧ ap w' w.heap.size (eq s) a c) ∧ Below w.heap.size w w' := by
 refine (nS s p w hs hE).mono ?_
 rintro e w' ⟨h, hx⟩
 obtain ⟨a, c, e1, h2⟩ := lD h
 exact ⟨⟨a, c, e1, World.ownsRow.mono h2 (by omega)⟩, hx⟩
theorem qz (s : ByteArray) (w : World) (hs : s.size ≤ 1048576) :
  Calls Tryz.prog 15 #[.string s] w fun e w' => (∃ a c, e = .returned (.agg #[.slice a (eq s).length c, .int .i64 (gg s)]) ∧ ap w' w.heap.size (eq s) a c) ∧ Below w.heap.size w w' := by
 refine (jv s w hs (fun L q hu h => pM hu h)).mono ?_
 rintro e w' ⟨h, hx⟩
 obtain ⟨a, c, e1, h2⟩ := lD h
 exact ⟨⟨a, c, e1, World.ownsRow.mono h2 (by omega)⟩, hx⟩
theorem oT (L : List St) (a : Option Addr) (c : Nat) (p : Addr) (w : World) (hn : L.length ≤ 1048576) (hcap : L.length ≤ c) (hc : c ≤ maxLen) (hS : aA w a L L.length) (hE : aU p w) :
  Calls Tryz.prog 8 #[.slice a L.length c] w fun e w' => (∃ x k, e = .returned (.slice x (aC L).length k) ∧ Prs w' x (aC L) (aC L).length) ∧ Below w.heap.size w w' := by
 refine (nI L a c p w hn hcap hc hS hE).mono ?_
 rintro e w' ⟨⟨v, rfl, h⟩, hx⟩
 obtain ⟨x, k, rfl, hP⟩ := jF h
 exact ⟨⟨x, k, rfl, hP⟩, hx⟩
theorem oU (L : List St) (a : Option Addr) (c : Nat) (w : World) (hn : L.length ≤ 1048576) (hS : aA w a L L.length) :
  Calls Tryz.prog 18 #[.slice a L.length c] w fun e w' => (∃ x k, e = .returned (.slice x (aC L).length k) ∧ Prs w' x (aC L) (aC L).length) ∧ Below w.heap.size w w' := by
 refine (ju L a c w hn hS).mono ?_
 rintro e w' ⟨⟨g, cap, rfl, h⟩, hx⟩
 obtain ⟨x, k, e1, hP⟩ := jF h
 rw [e1]
 exact ⟨⟨x, k, rfl, hP⟩, hx⟩
theorem jN (L : List St) (ar : Option Addr) (c : Nat) (a1 a2 a3 b1 b2 b3 : Int) (p : Addr) (w : World) (hn : L.length ≤ 1048576) (hcap : L.length ≤ c) (hc : c ≤ maxLen) (hS : aA w ar L L.length) (hE : aU p w) :
  Calls Tryz.prog 19 #[.slice ar L.length c, .agg #[.int .i64 a1, .int .i64 a2, .int .i64 a3], .agg #[.int .i64 b1, .int .i64 b2, .int .i64 b3]] w fun e w' => (∃ x k, e = .returned (.slice x (aP L (a1, a2, a3) (b1, b2, b3)).length k) ∧ Prs w' x (aP L (a1, a2, a3) (b1, b2, b3)) (aP L (a1, a2, a3) (b1, b2, b3)).length) ∧ Below w.heap.size w w' := by
 refine (pW L ar c a1 a2 a3 b1 b2 b3 p w hn hcap hc hS hE).mono ?_
 rintro e w' ⟨⟨v, rfl, h⟩, hx⟩
 obtain ⟨x, k, rfl, hP⟩ := jF h
 exact ⟨⟨x, k, rfl, hP⟩, hx⟩
theorem ou (L : List St) (ar : Option Addr) (c : Nat) (a1 a2 a3 b1 b2 b3 : Int) (w : World) (hn : L.length ≤ 1048576) (hS : aA w ar L L.length) :
  Calls Tryz.prog 20 #[.slice ar L.length c, .agg #[.int .i64 a1, .int .i64 a2, .int .i64 a3], .agg #[.int .i64 b1, .int .i64 b2, .int .i64 b3]] w fun e w' => (∃ x k, e = .returned (.slice x (aP L (a1, a2, a3) (b1, b2, b3)).length k) ∧ Prs w' x (aP L (a1, a2, a3) (b1, b2, b3)) (aP L (a1, a2, a3) (b1, b2, b3)).length) ∧ Below w.heap.size w w' := by
 refine (lc L ar c a1 a2 a3 b1 b2 b3 w hn hS).mono ?_
 rintro e w' ⟨⟨v, rfl, h⟩, hx⟩
 obtain ⟨x, k, rfl, hP⟩ := jF h
 exact ⟨⟨x, k, rfl, hP⟩, hx⟩
theorem qD (L : List St) (a b c d cone : Int) (ar : Option Addr) (cap : Nat) (p : Addr) (w : World) (hn : L.length ≤ 1048576) (hcap : L.length ≤ cap) (hc9 : cap ≤ 9223372036854775807) (hS : aA w ar L L.length) (hE : aU p w) :
  Calls Tryz.prog 22 #[.slice ar L.length cap, .agg #[.int .i64 a, .int .i64 b, .int .i64 c, .int .i64 d], .int .i64 cone] w fun e w' => (∃ x k, e = .returned (.slice x (dM L a b c d cone).length k) ∧ ii w' x (dM L a b c d cone) (dM L a b c d cone).length) ∧ Below w.heap.size w w' := by
 refine (rN L a b c d cone ar cap p w hn hcap hc9 hS hE).mono ?_
 rintro e w' ⟨v, rfl, h, hx⟩
 obtain ⟨x, k, rfl, hN, _⟩ := lC rfl h
 exact ⟨⟨x, k, rfl, hN⟩, hx⟩
theorem qE (L : List St) (a b c d cone : Int) (ar : Option Addr) (cap : Nat) (w : World) (hn : L.length ≤ 1048576) (hS : aA w ar L L.length) :
  Calls Tryz.prog 23 #[.slice ar L.length cap, .agg #[.int .i64 a, .int .i64 b, .int .i64 c, .int .i64 d], .int .i64 cone] w fun e w' => (∃ x k, e = .returned (.slice x (dM L a b c d cone).length k) ∧ ii w' x (dM L a b c d cone) (dM L a b c d cone).length) ∧ Below w.heap.size w w' := by
 refine (mC L a b c d cone ar cap w hn hS).mono ?_
 rintro e w' ⟨v, rfl, h, hx⟩
 obtain ⟨x, k, rfl, hN, _⟩ := lC rfl h
 exact ⟨⟨x, k, rfl, hN⟩, hx⟩
theorem kW (a1 a2 : Int) (w : World) : (binOp .neq 52 (.agg #[.int .i64 a1, .int .i64 a2]) (.agg #[.int .i64 a1, .int .i64 a2])).run Tryz.prog w = .ok (.bool false) w := by
 simp [go_sem]
theorem kR (a1 a2 : Int) (w : World) : (binOp .eql 52 (.agg #[.int .i64 a1, .int .i64 a2]) (.agg #[.int .i64 a1, .int .i64 a2])).run Tryz.prog w = .ok (.bool true) w := by
 simp [go_sem]
theorem lY {a1 a2 b1 b2 : Int} (h : ¬ (a1 = b1 ∧ a2 = b2)) (w : World) : (binOp .eql 52 (.agg #[.int .i64 a1, .int .i64 a2]) (.agg #[.int .i64 b1, .int .i64 b2])).run Tryz.prog w = .ok (.bool false) w := by
 simp [go_sem]
 exact fun h1 h2 => h ⟨h1, h2⟩
theorem rC (a1 a2 a3 : Int) (w : World) : (binOp .neq 33 (.agg #[.int .i64 a1, .int .i64 a2, .int .i64 a3]) (.agg #[.int .i64 a1, .int .i64 a2, .int .i64 a3])).run Tryz.prog w = .ok (.bool false) w := by
 simp [go_sem]
theorem lr (a : Option Addr) (n c : Nat) (k : Int) (W : World) : (Instr.field 28 (.agg #[.slice a n c, .int .i64 k]) 0).run Tryz.prog W = .ok (.slice a n c) W := by kernel_rfl
theorem qh (a : Option Addr) (n c : Nat) (k : Int) (W : World) : (Instr.field 28 (.agg #[.slice a n c, .int .i64 k]) 1).run Tryz.prog W = .ok (.int .i64 k) W := by kernel_rfl
theorem gW (L : List P2) (a a' : Option Addr) (c c' : Nat) (w : World) (hn : L.length ≤ 1048576) (hS : Prs w a L L.length) (hS' : Prs w a' L L.length) :
  Calls Tryz.prog 17 #[.slice a L.length c, .slice a' L.length c'] w fun e w' => e = .returned (.bool true) ∧ Below w.heap.size w w' := by
 have hq := kW
 have HS := yz hS
 have HS' := yz hS'
 clear hS hS'
 go_enter Tryz.func17, Tryz.ntmps17
 go_wp2_with fail
 go_loopw [5] (fun i wr => ∃ k : Nat, k ≤ L.length ∧ i = .int .i64 k ∧ Hid (Below w.heap.size w wr)) (fun i _ => L.length - (intOf i).toNat)
 case atStart => exact ⟨0, by omega, rfl, yz (Below.refl _ _)⟩
 case round =>
  obtain ⟨k, hk, rfl, HB⟩ := hrel
  by_cases hkn : k < L.length
  ·have hkn2 : (k : Int) < (L.length : Int) := by omega
   have h1 : ∃ g o, a = some ⟨g, o, none⟩ ∧ wr.cell? ⟨g, o + k * 2, none⟩ = some (.int .i64 (prA L k).1) ∧ wr.cell? ⟨g, o + k * 2 + 1, none⟩ = some (.int .i64 (prA L k).2) := by
    rcases (yy HS).kept (yy HB) with h | ⟨g, o, e, _, h⟩
    ·omega
    ·exact ⟨g, o, e, h k hkn⟩
   have h2 : ∃ g o, a' = some ⟨g, o, none⟩ ∧ wr.cell? ⟨g, o + k * 2, none⟩ = some (.int .i64 (prA L k).1) ∧ wr.cell? ⟨g, o + k * 2 + 1, none⟩ = some (.int .i64 (prA L k).2) := by
    rcases (yy HS').kept (yy HB) with h | ⟨g, o, e, _, h⟩
    ·omega
    ·exact ⟨g, o, e, h k hkn⟩
   obtain ⟨g, o, rfl, hc0, hc1⟩ := h1
   obtain ⟨g', o', rfl, hd0, hd1⟩ := h2
   generalize (prA L k).1 = z at *
   generalize (prA L k).2 = y at *
   have r0 := cell_regrown hc0
   have r1 := cell_regrown hc1
   have t0 := cell_regrown hd0
   have t1 := cell_regrown hd1
   clear hc0 hc1 hd0 hd1
   go_wp2_with fail
   refine wp_region_quiet_below (by kernel_rfl) (by kernel_rfl) ?_
   repeat (go_big_quiet_step (fail))
   refine wpQuiet_nil ?_
   intro _ hw'
   obtain ⟨⟨dq, osq⟩, hw''⟩ := hw'
   subst hw''
   have hx := ak (yy HB) (below_regrown wr dq osq)
   generalize grow (redrawn wr dq) osq = W2 at hx ⊢
   have HB2 := yz hx
   clear hx HB r0 t0 r1 t1
   go_wp2_with fail
   go_roundw
   case rel => exact ⟨k + 1, by omega, by go_num, HB2⟩
   case measure => simp [intOf] <;> omega
  ·have hkn' : k = L.length := by omega
   subst hkn'
   go_wp2_with fail
   go_ret
   exact ⟨rfl, yy HB⟩
end
end Go.Proofs.YthoiooefclbecaaGreatDoor
