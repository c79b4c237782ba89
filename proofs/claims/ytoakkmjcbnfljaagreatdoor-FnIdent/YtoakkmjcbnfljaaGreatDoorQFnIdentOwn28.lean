/- Several texts in one: Draw3. -/
import Derived.Test.YtoakkmjcbnfljaaGreatDoorQFnIdentOwn27
import Derived.Test.YtoakkmjcbnfljaaGreatDoorQFnIdentOwn2
namespace Go.Proofs.YtoakkmjcbnfljaaGreatDoor
set_option linter.unusedVariables false
set_option linter.unusedSimpArgs false
set_option maxRecDepth 100000
set_option maxHeartbeats 8000000
section
open Go.RowKit
theorem ll (b : Nat) (w : World) (hS : aU b w) :
  Calls Tryz.prog 103 #[.pointer (some ⟨b, 0, none⟩)] w fun e w' => ∃ v : Int, e = .returned (.int .i64 v) ∧ aU b w' ∧ w.grownBy w' (some b) := by
 have HS := yz hS
 clear hS
 go_enter Tryz.func103, Tryz.ntmps103
 go_wp2_with fail
 refine (bh b 15 _ (yy HS) (by omega)).mono ?_
 rintro e w1 ⟨y, rfl, hS1, hg1⟩
 have HS1 := yz hS1
 have HL := yz hS1.lt
 clear hS1
 cases y
 ·go_wp2_with fail
  refine (bh b 4 _ (yy HS1) (by omega)).mono ?_
  rintro e w2 ⟨y, rfl, hS2, hg2⟩
  have HS2 := yz hS2
  have hg := an hg1 hg2
  clear hS2 hg1 hg2
  cases y
  ·go_wp2_with fail
   refine (bp b 9 _ (yy HS2) (by omega)).mono ?_
   rintro e w3 ⟨z, rfl, z0, z1, z2, hS3, hg3⟩
   have hg' := an hg hg3
   have HS3 := yz hS3
   clear hS3 hg3 hg z1 z2
   go_wp2_with fail
   go_ret
   exact ⟨_, rfl, yy HS3, hg'⟩
  ·go_wp2_with fail
   refine (bp b 400 _ (yy HS2) (by omega)).mono ?_
   rintro e w3 ⟨z, rfl, z0, z1, z2, hS3, hg3⟩
   have hg' := an hg hg3
   have HS3 := yz hS3
   clear hS3 hg3 hg z1 z2
   go_wp2_with fail
   go_ret
   exact ⟨_, rfl, yy HS3, hg'⟩
 ·go_wp2_with fail
  refine (bp b 6 _ ((yy HS1).kept (World.grownBy_alloc w1 _ none) (fun _ e => by cases e)) (by omega)).mono ?_
  rintro e w2 ⟨z, rfl, z0, z1, z2, hS2, hg2⟩
  have hz6 : z < 6 := z1 (by omega)
  have HS2 := yz hS2
  obtain ⟨k, rfl⟩ : ∃ k : Nat, z = (k : Int) := ⟨z.toNat, by omega⟩
  have hc : ∃ v : Int, w2.cell? ⟨w1.heap.size, k, none⟩ = some (.int .i64 v) := by
   have hk : k < 6 := by omega
   match k, hk with
   | 0, _ => exact ⟨_, dN w1 w2 b _ _ hg2 (yy HL) 0 _ rfl⟩
   | 1, _ => exact ⟨_, dN w1 w2 b _ _ hg2 (yy HL) 1 _ rfl⟩
   | 2, _ => exact ⟨_, dN w1 w2 b _ _ hg2 (yy HL) 2 _ rfl⟩
   | 3, _ => exact ⟨_, dN w1 w2 b _ _ hg2 (yy HL) 3 _ rfl⟩
   | 4, _ => exact ⟨_, dN w1 w2 b _ _ hg2 (yy HL) 4 _ rfl⟩
   | 5, _ => exact ⟨_, dN w1 w2 b _ _ hg2 (yy HL) 5 _ rfl⟩
  obtain ⟨v, hv⟩ := hc
  have hgw : w1.grownBy w2 (some b) := an (World.grownBy_alloc w1 _ (some b)) hg2
  have hg' := an hg1 hgw
  clear z1 z2 hS2 hg2 hgw hg1
  go_wp2
  go_ret
  exact ⟨v, rfl, yy HS2, hg'⟩
theorem az {a w : World} {row : Option Nat} (h : a.grownBy w row) {p : Addr} (hp : a.heap.size ≤ p.block) (v : Value) : a.grownBy (w.setCell p v) row :=
 ⟨h.os, h.tape, h.output, by have := h.size; simpa [World.setCell] using this, fun i hi hn => (Below.heap_setCell w p v i (by omega)).trans (h.block i hi hn)⟩
theorem aU.set {b : Nat} {w : World} (h : aU b w) {p : Addr} (hp : b < p.block) (v : Value) : aU b (w.setCell p v) :=
 h.kept (row := some p.block) ⟨rfl, rfl, rfl, by simp [World.setCell], fun i hi hn => Below.heap_setCell w p v i (fun e => hn (by rw [e]))⟩ (fun k e => by have := Option.some.inj e; omega)
theorem aB.grown {w w' : World} {b c : Nat} {x y z : Int} (h : aB w b x y z) (hg : w.grownBy w' (some c)) (hne : b ≠ c) : aB w' b x y z := by
 obtain ⟨h0, h1, h2⟩ := h
 have hn : ∀ i, some (⟨b, i, none⟩ : Addr).block ≠ some c := fun i e => hne (Option.some.inj e)
 exact ⟨hg.cell h0 (hn 0), hg.cell h1 (hn 1), hg.cell h2 (hn 2)⟩
theorem bO.grown {w w' : World} {b c : Nat} (h : bO w b) (hb : b < w.heap.size) (hg : w.grownBy w' (some c)) (hne : b ≠ c) : bO w' b := by
 obtain ⟨h0, h1, h2⟩ := h
 have hf : ∀ i, w'.frozen? ⟨b, i, none⟩ = w.frozen? ⟨b, i, none⟩ := fun i => World.frozen?_of_block (hg.block b hb (fun e => hne (Option.some.inj e)))
 exact ⟨by rw [hf]; exact h0, by rw [hf]; exact h1, by rw [hf]; exact h2⟩
theorem aU.allocs {b : Nat} {w : World} (h : aU b w) (o : Obj) : aU b (w.alloc o) := h.kept (World.grownBy_alloc w o none) (fun _ e => by cases e)
theorem qI (b : Nat) (w : World) (hS : aU b w) :
  Calls Tryz.prog 87 #[.pointer (some ⟨b, 0, none⟩)] w fun e w' => ∃ x y z : Int, e = .returned (.agg #[.int .i64 x, .int .i64 y, .int .i64 z]) ∧ aU b w' ∧ w.grownBy w' (some b) := by
 have hlt := hS.lt
 have HS := yz hS
 clear hS
 go_enter Tryz.func87, Tryz.ntmps87
 go_wp2_with fail
 refine (ll b _ ((yy HS).allocs _)).mono ?_
 rintro e w1 ⟨x, rfl, hS1, hg1⟩
 have vr := (aA w 0 0 0 67).grown hg1 (by omega)
 have fr := (bk w 0 0 0 67).grown (by simp) hg1 (by omega)
 have hs : w.heap.size < w1.heap.size := by have := hg1.size; simp at this; omega
 have hg := an (World.grownBy_alloc w _ (some b)) hg1
 have HS1 := yz hS1
 clear hS1 hg1
 go_wp2_with fail
 refine (ll b _ (yy HS1)).mono ?_
 rintro e w2 ⟨y, rfl, hS2, hg2⟩
 replace vr := vr.grown hg2 (by omega)
 replace fr := fr.grown hs hg2 (by omega)
 replace hs : w.heap.size < w2.heap.size := by have := hg2.size; omega
 replace hg := an hg hg2
 have HS2 := yz hS2
 clear hS2 hg2 HS1
 go_wp2_with fail
 refine (ll b _ (yy HS2)).mono ?_
 rintro e w3 ⟨z, rfl, hS3, hg3⟩
 replace vr := vr.grown hg3 (by omega)
 replace fr := fr.grown hs hg3 (by omega)
 replace hg := an hg hg3
 have HS3 := yz hS3
 have HG := yz hg
 clear hS3 hg3 HS2 hg
 obtain ⟨r0, r1, r2⟩ := vr
 obtain ⟨f0, f1, f2⟩ := fr
 go_wp2_with fail
 exact bodyPost_ret (v := .agg #[.int .i64 x, .int .i64 y, .int .i64 z]) (by simp [results, Tryz.results87, go_sem, r0, r1, r2]) rfl ⟨x, y, z, rfl, (((yy HS3).set (by simpa using hlt) _).set (by simpa using hlt) _).set (by simpa using hlt) _, az (az (az (yy HG) (Nat.le_refl _) _) (Nat.le_refl _) _) (Nat.le_refl _) _⟩
end
end Go.Proofs.YtoakkmjcbnfljaaGreatDoor
