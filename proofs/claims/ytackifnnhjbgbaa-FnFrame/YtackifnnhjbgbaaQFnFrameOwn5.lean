/- Several texts in one: FfA. -/
import Derived.Test.YtackifnnhjbgbaaQFnFrameOwn4
import Derived.Test.YtackifnnhjbgbaaQFnFrameOwn2
import Derived.Test.YtackifnnhjbgbaaQFnFrameOwn1
namespace Go.Proofs.Ytackifnnhjbgbaa
set_option linter.unusedVariables false
set_option linter.unusedSimpArgs false
set_option maxRecDepth 100000
set_option maxHeartbeats 8000000
section
open Go.RowKit
theorem dX (a : Option Addr) (len cap : Nat) (w : World) (hl : len ≤ 1048576) (hR : Row w a len w.heap.size) :
  Calls Try.prog 13 #[.slice a len cap] w fun e w' => (∃ (wd ht : Int) (s : ByteArray), e = .returned (.agg #[.int .i64 wd, .int .i64 ht, .string s]) ∧ s.size ≤ 200) ∧ Below w.heap.size w w' := by
 have B0 := an w (.cells #[.int .i64 0, .int .i64 0, .string ⟨#[]⟩] 26)
 have R0 := al w [.int .i64 0, .int .i64 0, .string ⟨#[]⟩] 26
 go_enter Try.func13, Try.ntmps13
 go_wp2_with fail
 generalize w.alloc (.cells #[.int .i64 0, .int .i64 0, .string ⟨#[]⟩] 26) = W0 at B0 R0 ⊢
 refine (cO a len cap _ hl (hR.belowF B0)).mono ?_
 rintro e W1 ⟨rfl, hS1, hx⟩
 have hsb : w.heap.size < W0.heap.size := R0.lt
 have R1 := R0.kept hx
 have B1 := aj B0 hx
 generalize W0.heap.size = sb at *
 clear hx B0 R0
 go_wp2_with fail
 refine (bD sb _ hS1).mono ?_
 rintro e W2 ⟨wd, ht, s, rfl, hs, hS2, hg2⟩
 have R2 := R1.grownC hg2 (by omega)
 have B2 := gj B1 hg2 (by omega) B1.size
 clear hS1 hS2 hg2 R1 B1
 obtain ⟨r0, r1, r2⟩ := cd (R2)
 obtain ⟨x0, x1, x2⟩ := bfs3 (R2)
 go_wp2_with fail
 exact bodyPost_ret (v := .agg #[.int .i64 wd, .int .i64 ht, .string s]) (by simp [results, Try.results13, go_sem, r0, r1, r2]) rfl ⟨⟨wd, ht, s, rfl, hs⟩, ((B2.setCell (Nat.le_refl _) _).setCell (Nat.le_refl _) _).setCell (Nat.le_refl _) _⟩
theorem eE (a : Option Addr) (len cap : Nat) (w : World) (hl : len ≤ 1048576) (hR : Row w a len w.heap.size) :
  Calls Try.prog 9 #[.slice a len cap] w fun e w' => (∃ (wd ht lv : Int) (s : ByteArray), e = .returned (.tuple #[.agg #[.int .i64 wd, .int .i64 ht, .string s], .int .i64 lv]) ∧ s.size ≤ 200) ∧ Below w.heap.size w w' := by
 have B0 := an w (.cells #[.int .i64 0, .int .i64 0, .string ⟨#[]⟩] 26)
 have R0 := al w [.int .i64 0, .int .i64 0, .string ⟨#[]⟩] 26
 go_enter Try.func9, Try.ntmps9
 go_wp2_with fail
 generalize w.alloc (.cells #[.int .i64 0, .int .i64 0, .string ⟨#[]⟩] 26) = W0 at B0 R0 ⊢
 refine (cO a len cap _ hl (hR.belowF B0)).mono ?_
 rintro e W1 ⟨rfl, hS1, hx⟩
 have H1 := yz (fN B0 [(w.heap.size, [.int .i64 0, .int .i64 0, .string ⟨#[]⟩], 26)] (fun k x e => by
  match k, e with
  | 0, e => cases e; exact ⟨R0, Nat.le_refl _⟩) hS1 hx)
 have hsb : w.heap.size < W0.heap.size := R0.lt
 generalize W0.heap.size = sb at *
 clear hx B0 R0 hS1
 go_wp2_with fail
 refine (bD sb _ (yx H1).src).mono ?_
 rintro e W2 ⟨wd, ht, s, rfl, hs, hS2, hg2⟩
 have H2 := yz (((yx H1).call hS2 hg2).alloc [.int .i64 wd, .int .i64 ht, .string s] 26)
 have hlt2 := hS2.lt
 clear H1 hS2 hg2
 go_wp2_with fail
 generalize W2.alloc (.cells #[.int .i64 wd, .int .i64 ht, .string s] 26) = W3 at H2 ⊢
 generalize W2.heap.size = db at *
 have f0 := ((yx H2).at' 0 _ rfl).cell 0 _ rfl
 have f1 := ((yx H2).at' 0 _ rfl).cell 1 _ rfl
 have f2 := ((yx H2).at' 0 _ rfl).cell 2 _ rfl
 refine wp_region_held_drew (S := (fun w' => w'.cell? ⟨db, 0, none⟩ = some (.int .i64 wd) ∧ w'.cell? ⟨db, 1, none⟩ = some (.int .i64 ht) ∧ w'.cell? ⟨db, 2, none⟩ = some (.string s))) (by kernel_rfl) ⟨f0, f1, f2⟩ (fun hHeld => ?_)
 have Q0 := yz (yx H2).drewn
 generalize W3.drew = V0 at Q0 hHeld ⊢
 clear H2 f0 f1 f2
 refine aa 0 rfl ?_
 try simp only [Act.put, ag, ah, ai]
 refine aa 2 rfl ?_
 try simp only [Act.put, ag, ah, ai]
 refine wpAnyH_ready (rs := [1, 3]) (by kernel_rfl) (by simp) ?_
 refine (AllReadyH.cons rfl (fun K hK => ?_) (AllReadyH.cons rfl (fun K hK => ?_) AllReadyH.nil))
 ·go_simp
  have Q1 := yz ((yx Q0).alloc [.int .i64 10, .int .i64 10, .int .i64 40, .int .i64 0, .int .i64 1, .int .i64 255, .int .i64 (-1), .int .i64 256] 2)
  have hlw1 := ((yx Q0).at' 0 _ rfl).lt
  generalize V0.alloc (.cells #[.int .i64 10, .int .i64 10, .int .i64 40, .int .i64 0, .int .i64 1, .int .i64 255, .int .i64 (-1), .int .i64 256] 2) = v1 at Q1 ⊢
  generalize V0.heap.size = lb1 at *
  refine hK.out _ _ ?_ (fun hHeld1 => ?_)
  ·exact ⟨((yx Q1).at' 1 _ rfl).cell 0 _ rfl, ((yx Q1).at' 1 _ rfl).cell 1 _ rfl, ((yx Q1).at' 1 _ rfl).cell 2 _ rfl⟩
  clear hK K
  refine wpAnyH_ready (rs := [3]) (by kernel_rfl) (by simp) ?_
  refine (AllReadyH.cons rfl (fun K hK => ?_) AllReadyH.nil)
  go_simp
  refine (bC sb 8 _ (yx Q1).src (by omega)).mono ?_
  rintro e w2 ⟨k2, rfl, hk2a, hk2b, _, hS2, hg2⟩
  have Q2 := yz ((yx Q1).call hS2 hg2)
  clear hS2 hg2
  obtain ⟨i2, hi2⟩ := Int.eq_ofNat_of_zero_le hk2a
  have hk2c := hk2b (by omega)
  subst hi2
  have hi2n : i2 < 8 := by omega
  have hi2m : (i2 : Int) < 8 := by omega
  refine hK.out _ _ ?_ (fun hHeld2 => ?_)
  ·exact ⟨((yx Q2).at' 1 _ rfl).cell 0 _ rfl, ((yx Q2).at' 1 _ rfl).cell 1 _ rfl, ((yx Q2).at' 1 _ rfl).cell 2 _ rfl⟩
  clear hK K
  refine aa 4 rfl ?_
  try simp only [Act.put, ag, ah, ai]
  refine wpAnyH_ready (rs := [5, 6]) (by kernel_rfl) (by simp) ?_
  refine (AllReadyH.cons rfl (fun K hK => ?_) (AllReadyH.cons rfl (fun K hK => ?_) AllReadyH.nil))
  ·obtain ⟨z3, hz3⟩ := ch ((yx Q2).at' 0 _ rfl) (by simp) hi2n
   go_simp
   refine hK.out _ _ ?_ (fun hHeld3 => ?_)
   ·exact ⟨((yx Q2).at' 1 _ rfl).cell 0 _ rfl, ((yx Q2).at' 1 _ rfl).cell 1 _ rfl, ((yx Q2).at' 1 _ rfl).cell 2 _ rfl⟩
   clear hK K
   refine wpAnyH_ready (rs := [6]) (by kernel_rfl) (by simp) ?_
   refine (AllReadyH.cons rfl (fun K hK => ?_) AllReadyH.nil)
   have r4_0 := ((yx Q2).at' 2 _ rfl).cell 0 _ rfl
   have r4_1 := ((yx Q2).at' 2 _ rfl).cell 1 _ rfl
   have r4_2 := ((yx Q2).at' 2 _ rfl).cell 2 _ rfl
   have x4_0 := ((yx Q2).at' 2 _ rfl).free 0
   have x4_1 := ((yx Q2).at' 2 _ rfl).free 1
   have x4_2 := ((yx Q2).at' 2 _ rfl).free 2
   have hne4 : ∀ x ∈ ([(lb1, [.int .i64 10, .int .i64 10, .int .i64 40, .int .i64 0, .int .i64 1, .int .i64 255, .int .i64 (-1), .int .i64 256], 2), (db, [.int .i64 wd, .int .i64 ht, .string s], 26)] : List (Nat × List Value × TypeId)), x.1 ≠ w.heap.size := by simp; omega
   have Q4 := yz (((((yx Q2).db.pick (bs' := (w.heap.size, [.int .i64 0, .int .i64 0, .string ⟨#[]⟩], 26) :: [(lb1, [.int .i64 10, .int .i64 10, .int .i64 40, .int .i64 0, .int .i64 1, .int .i64 255, .int .i64 (-1), .int .i64 256], 2), (db, [.int .i64 wd, .int .i64 ht, .string s], 26)]) (by intro x hx; simp only [List.mem_cons, List.not_mem_nil, or_false] at hx; rcases hx with rfl | rfl | rfl <;> simp)).set hne4 0 (.int .i64 wd)).set hne4 1 (.int .i64 ht)).set hne4 2 (.string s))
   go_simp
   clear r4_0 x4_0 r4_1 x4_1 r4_2 x4_2
   generalize (((w2.setCell ⟨w.heap.size, 0, none⟩ (.int .i64 wd)).setCell ⟨w.heap.size, 1, none⟩ (.int .i64 ht)).setCell ⟨w.heap.size, 2, none⟩ (.string s)) = u4 at Q4 ⊢
   refine hK.out _ _ ?_ (fun hHeld4 => ?_)
   ·exact ⟨((yx Q4).at' 2 _ rfl).cell 0 _ rfl, ((yx Q4).at' 2 _ rfl).cell 1 _ rfl, ((yx Q4).at' 2 _ rfl).cell 2 _ rfl⟩
   clear hK K
   refine wpAnyH_ready (rs := [7]) (by kernel_rfl) (by simp) ?_
   refine (AllReadyH.cons rfl (fun K hK => ?_) AllReadyH.nil)
   go_simp
   refine hK.out _ _ ?_ (fun hHeld5 => ?_)
   ·exact ⟨((yx Q4).at' 2 _ rfl).cell 0 _ rfl, ((yx Q4).at' 2 _ rfl).cell 1 _ rfl, ((yx Q4).at' 2 _ rfl).cell 2 _ rfl⟩
   clear hK K
   refine wpAnyH_done (by kernel_rfl) ?_ _
   have u0 := ((yx Q4).at' 0 _ rfl).cell 0 _ rfl
   have u1 := ((yx Q4).at' 0 _ rfl).cell 1 _ rfl
   have u2 := ((yx Q4).at' 0 _ rfl).cell 2 _ rfl
   go_wp2_with fail
   exact bodyPost_ret (v := .tuple #[.agg #[.int .i64 wd, .int .i64 ht, .string s], .int .i64 z3]) (by simp [results, Try.results9, go_sem, u0, u1, u2]) rfl ⟨⟨_, _, _, _, rfl, hs⟩, (yx Q4).bel⟩
  ·have r6_0 := ((yx Q2).at' 2 _ rfl).cell 0 _ rfl
   have r6_1 := ((yx Q2).at' 2 _ rfl).cell 1 _ rfl
   have r6_2 := ((yx Q2).at' 2 _ rfl).cell 2 _ rfl
   have x6_0 := ((yx Q2).at' 2 _ rfl).free 0
   have x6_1 := ((yx Q2).at' 2 _ rfl).free 1
   have x6_2 := ((yx Q2).at' 2 _ rfl).free 2
   have hne6 : ∀ x ∈ ([(lb1, [.int .i64 10, .int .i64 10, .int .i64 40, .int .i64 0, .int .i64 1, .int .i64 255, .int .i64 (-1), .int .i64 256], 2), (db, [.int .i64 wd, .int .i64 ht, .string s], 26)] : List (Nat × List Value × TypeId)), x.1 ≠ w.heap.size := by simp; omega
   have Q6 := yz (((((yx Q2).db.pick (bs' := (w.heap.size, [.int .i64 0, .int .i64 0, .string ⟨#[]⟩], 26) :: [(lb1, [.int .i64 10, .int .i64 10, .int .i64 40, .int .i64 0, .int .i64 1, .int .i64 255, .int .i64 (-1), .int .i64 256], 2), (db, [.int .i64 wd, .int .i64 ht, .string s], 26)]) (by intro x hx; simp only [List.mem_cons, List.not_mem_nil, or_false] at hx; rcases hx with rfl | rfl | rfl <;> simp)).set hne6 0 (.int .i64 wd)).set hne6 1 (.int .i64 ht)).set hne6 2 (.string s))
   go_simp
   clear r6_0 x6_0 r6_1 x6_1 r6_2 x6_2
   generalize (((w2.setCell ⟨w.heap.size, 0, none⟩ (.int .i64 wd)).setCell ⟨w.heap.size, 1, none⟩ (.int .i64 ht)).setCell ⟨w.heap.size, 2, none⟩ (.string s)) = u6 at Q6 ⊢
   refine hK.out _ _ ?_ (fun hHeld6 => ?_)
   ·exact ⟨((yx Q6).at' 2 _ rfl).cell 0 _ rfl, ((yx Q6).at' 2 _ rfl).cell 1 _ rfl, ((yx Q6).at' 2 _ rfl).cell 2 _ rfl⟩
   clear hK K
   refine wpAnyH_ready (rs := [5]) (by kernel_rfl) (by simp) ?_
   refine (AllReadyH.cons rfl (fun K hK => ?_) AllReadyH.nil)
   obtain ⟨z7, hz7⟩ := ch ((yx Q6).at' 1 _ rfl) (by simp) hi2n
   go_simp
   refine hK.out _ _ ?_ (fun hHeld7 => ?_)
   ·exact ⟨((yx Q6).at' 2 _ rfl).cell 0 _ rfl, ((yx Q6).at' 2 _ rfl).cell 1 _ rfl, ((yx Q6).at' 2 _ rfl).cell 2 _ rfl⟩
   clear hK K
   refine wpAnyH_ready (rs := [7]) (by kernel_rfl) (by simp) ?_
   refine (AllReadyH.cons rfl (fun K hK => ?_) AllReadyH.nil)
   go_simp
   refine hK.out _ _ ?_ (fun hHeld8 => ?_)
   ·exact ⟨((yx Q6).at' 2 _ rfl).cell 0 _ rfl, ((yx Q6).at' 2 _ rfl).cell 1 _ rfl, ((yx Q6).at' 2 _ rfl).cell 2 _ rfl⟩
   clear hK K
   refine wpAnyH_done (by kernel_rfl) ?_ _
   have u0 := ((yx Q6).at' 0 _ rfl).cell 0 _ rfl
   have u1 := ((yx Q6).at' 0 _ rfl).cell 1 _ rfl
   have u2 := ((yx Q6).at' 0 _ rfl).cell 2 _ rfl
   go_wp2_with fail
   exact bodyPost_ret (v := .tuple #[.agg #[.int .i64 wd, .int .i64 ht, .string s], .int .i64 z7]) (by simp [results, Try.results9, go_sem, u0, u1, u2]) rfl ⟨⟨_, _, _, _, rfl, hs⟩, (yx Q6).bel⟩
 ·go_simp
  refine (bC sb 8 _ (yx Q0).src (by omega)).mono ?_
  rintro e w9 ⟨k9, rfl, hk9a, hk9b, _, hS9, hg9⟩
  have Q9 := yz ((yx Q0).call hS9 hg9)
  clear hS9 hg9
  obtain ⟨i9, hi9⟩ := Int.eq_ofNat_of_zero_le hk9a
  have hk9c := hk9b (by omega)
  subst hi9
  have hi9n : i9 < 8 := by omega
  have hi9m : (i9 : Int) < 8 := by omega
  refine hK.out _ _ ?_ (fun hHeld9 => ?_)
  ·exact ⟨((yx Q9).at' 0 _ rfl).cell 0 _ rfl, ((yx Q9).at' 0 _ rfl).cell 1 _ rfl, ((yx Q9).at' 0 _ rfl).cell 2 _ rfl⟩
  clear hK K
  refine wpAnyH_ready (rs := [1, 6]) (by kernel_rfl) (by simp) ?_
  refine (AllReadyH.cons rfl (fun K hK => ?_) (AllReadyH.cons rfl (fun K hK => ?_) AllReadyH.nil))
  ·go_simp
   have Q10 := yz ((yx Q9).alloc [.int .i64 10, .int .i64 10, .int .i64 40, .int .i64 0, .int .i64 1, .int .i64 255, .int .i64 (-1), .int .i64 256] 2)
   have hlw10 := ((yx Q9).at' 0 _ rfl).lt
   generalize w9.alloc (.cells #[.int .i64 10, .int .i64 10, .int .i64 40, .int .i64 0, .int .i64 1, .int .i64 255, .int .i64 (-1), .int .i64 256] 2) = v10 at Q10 ⊢
   generalize w9.heap.size = lb10 at *
   refine hK.out _ _ ?_ (fun hHeld10 => ?_)
   ·exact ⟨((yx Q10).at' 1 _ rfl).cell 0 _ rfl, ((yx Q10).at' 1 _ rfl).cell 1 _ rfl, ((yx Q10).at' 1 _ rfl).cell 2 _ rfl⟩
   clear hK K
   refine aa 4 rfl ?_
   try simp only [Act.put, ag, ah, ai]
   refine wpAnyH_ready (rs := [5, 6]) (by kernel_rfl) (by simp) ?_
   refine (AllReadyH.cons rfl (fun K hK => ?_) (AllReadyH.cons rfl (fun K hK => ?_) AllReadyH.nil))
   ·obtain ⟨z11, hz11⟩ := ch ((yx Q10).at' 0 _ rfl) (by simp) hi9n
    go_simp
    refine hK.out _ _ ?_ (fun hHeld11 => ?_)
    ·exact ⟨((yx Q10).at' 1 _ rfl).cell 0 _ rfl, ((yx Q10).at' 1 _ rfl).cell 1 _ rfl, ((yx Q10).at' 1 _ rfl).cell 2 _ rfl⟩
    clear hK K
    refine wpAnyH_ready (rs := [6]) (by kernel_rfl) (by simp) ?_
    refine (AllReadyH.cons rfl (fun K hK => ?_) AllReadyH.nil)
    have r12_0 := ((yx Q10).at' 2 _ rfl).cell 0 _ rfl
    have r12_1 := ((yx Q10).at' 2 _ rfl).cell 1 _ rfl
    have r12_2 := ((yx Q10).at' 2 _ rfl).cell 2 _ rfl
    have x12_0 := ((yx Q10).at' 2 _ rfl).free 0
    have x12_1 := ((yx Q10).at' 2 _ rfl).free 1
    have x12_2 := ((yx Q10).at' 2 _ rfl).free 2
    have hne12 : ∀ x ∈ ([(lb10, [.int .i64 10, .int .i64 10, .int .i64 40, .int .i64 0, .int .i64 1, .int .i64 255, .int .i64 (-1), .int .i64 256], 2), (db, [.int .i64 wd, .int .i64 ht, .string s], 26)] : List (Nat × List Value × TypeId)), x.1 ≠ w.heap.size := by simp; omega
    have Q12 := yz (((((yx Q10).db.pick (bs' := (w.heap.size, [.int .i64 0, .int .i64 0, .string ⟨#[]⟩], 26) :: [(lb10, [.int .i64 10, .int .i64 10, .int .i64 40, .int .i64 0, .int .i64 1, .int .i64 255, .int .i64 (-1), .int .i64 256], 2), (db, [.int .i64 wd, .int .i64 ht, .string s], 26)]) (by intro x hx; simp only [List.mem_cons, List.not_mem_nil, or_false] at hx; rcases hx with rfl | rfl | rfl <;> simp)).set hne12 0 (.int .i64 wd)).set hne12 1 (.int .i64 ht)).set hne12 2 (.string s))
    go_simp
    clear r12_0 x12_0 r12_1 x12_1 r12_2 x12_2
    generalize (((v10.setCell ⟨w.heap.size, 0, none⟩ (.int .i64 wd)).setCell ⟨w.heap.size, 1, none⟩ (.int .i64 ht)).setCell ⟨w.heap.size, 2, none⟩ (.string s)) = u12 at Q12 ⊢
    refine hK.out _ _ ?_ (fun hHeld12 => ?_)
    ·exact ⟨((yx Q12).at' 2 _ rfl).cell 0 _ rfl, ((yx Q12).at' 2 _ rfl).cell 1 _ rfl, ((yx Q12).at' 2 _ rfl).cell 2 _ rfl⟩
    clear hK K
    refine wpAnyH_ready (rs := [7]) (by kernel_rfl) (by simp) ?_
    refine (AllReadyH.cons rfl (fun K hK => ?_) AllReadyH.nil)
    go_simp
    refine hK.out _ _ ?_ (fun hHeld13 => ?_)
    ·exact ⟨((yx Q12).at' 2 _ rfl).cell 0 _ rfl, ((yx Q12).at' 2 _ rfl).cell 1 _ rfl, ((yx Q12).at' 2 _ rfl).cell 2 _ rfl⟩
    clear hK K
    refine wpAnyH_done (by kernel_rfl) ?_ _
    have u0 := ((yx Q12).at' 0 _ rfl).cell 0 _ rfl
    have u1 := ((yx Q12).at' 0 _ rfl).cell 1 _ rfl
    have u2 := ((yx Q12).at' 0 _ rfl).cell 2 _ rfl
    go_wp2_with fail
    exact bodyPost_ret (v := .tuple #[.agg #[.int .i64 wd, .int .i64 ht, .string s], .int .i64 z11]) (by simp [results, Try.results9, go_sem, u0, u1, u2]) rfl ⟨⟨_, _, _, _, rfl, hs⟩, (yx Q12).bel⟩
   ·have r14_0 := ((yx Q10).at' 2 _ rfl).cell 0 _ rfl
    have r14_1 := ((yx Q10).at' 2 _ rfl).cell 1 _ rfl
    have r14_2 := ((yx Q10).at' 2 _ rfl).cell 2 _ rfl
    have x14_0 := ((yx Q10).at' 2 _ rfl).free 0
    have x14_1 := ((yx Q10).at' 2 _ rfl).free 1
    have x14_2 := ((yx Q10).at' 2 _ rfl).free 2
    have hne14 : ∀ x ∈ ([(lb10, [.int .i64 10, .int .i64 10, .int .i64 40, .int .i64 0, .int .i64 1, .int .i64 255, .int .i64 (-1), .int .i64 256], 2), (db, [.int .i64 wd, .int .i64 ht, .string s], 26)] : List (Nat × List Value × TypeId)), x.1 ≠ w.heap.size := by simp; omega
    have Q14 := yz (((((yx Q10).db.pick (bs' := (w.heap.size, [.int .i64 0, .int .i64 0, .string ⟨#[]⟩], 26) :: [(lb10, [.int .i64 10, .int .i64 10, .int .i64 40, .int .i64 0, .int .i64 1, .int .i64 255, .int .i64 (-1), .int .i64 256], 2), (db, [.int .i64 wd, .int .i64 ht, .string s], 26)]) (by intro x hx; simp only [List.mem_cons, List.not_mem_nil, or_false] at hx; rcases hx with rfl | rfl | rfl <;> simp)).set hne14 0 (.int .i64 wd)).set hne14 1 (.int .i64 ht)).set hne14 2 (.string s))
    go_simp
    clear r14_0 x14_0 r14_1 x14_1 r14_2 x14_2
    generalize (((v10.setCell ⟨w.heap.size, 0, none⟩ (.int .i64 wd)).setCell ⟨w.heap.size, 1, none⟩ (.int .i64 ht)).setCell ⟨w.heap.size, 2, none⟩ (.string s)) = u14 at Q14 ⊢
    refine hK.out _ _ ?_ (fun hHeld14 => ?_)
    ·exact ⟨((yx Q14).at' 2 _ rfl).cell 0 _ rfl, ((yx Q14).at' 2 _ rfl).cell 1 _ rfl, ((yx Q14).at' 2 _ rfl).cell 2 _ rfl⟩
    clear hK K
    refine wpAnyH_ready (rs := [5]) (by kernel_rfl) (by simp) ?_
    refine (AllReadyH.cons rfl (fun K hK => ?_) AllReadyH.nil)
    obtain ⟨z15, hz15⟩ := ch ((yx Q14).at' 1 _ rfl) (by simp) hi9n
    go_simp
    refine hK.out _ _ ?_ (fun hHeld15 => ?_)
    ·exact ⟨((yx Q14).at' 2 _ rfl).cell 0 _ rfl, ((yx Q14).at' 2 _ rfl).cell 1 _ rfl, ((yx Q14).at' 2 _ rfl).cell 2 _ rfl⟩
    clear hK K
    refine wpAnyH_ready (rs := [7]) (by kernel_rfl) (by simp) ?_
    refine (AllReadyH.cons rfl (fun K hK => ?_) AllReadyH.nil)
    go_simp
    refine hK.out _ _ ?_ (fun hHeld16 => ?_)
    ·exact ⟨((yx Q14).at' 2 _ rfl).cell 0 _ rfl, ((yx Q14).at' 2 _ rfl).cell 1 _ rfl, ((yx Q14).at' 2 _ rfl).cell 2 _ rfl⟩
    clear hK K
    refine wpAnyH_done (by kernel_rfl) ?_ _
    have u0 := ((yx Q14).at' 0 _ rfl).cell 0 _ rfl
    have u1 := ((yx Q14).at' 0 _ rfl).cell 1 _ rfl
    have u2 := ((yx Q14).at' 0 _ rfl).cell 2 _ rfl
    go_wp2_with fail
    exact bodyPost_ret (v := .tuple #[.agg #[.int .i64 wd, .int .i64 ht, .string s], .int .i64 z15]) (by simp [results, Try.results9, go_sem, u0, u1, u2]) rfl ⟨⟨_, _, _, _, rfl, hs⟩, (yx Q14).bel⟩
  ·have r17_0 := ((yx Q9).at' 1 _ rfl).cell 0 _ rfl
   have r17_1 := ((yx Q9).at' 1 _ rfl).cell 1 _ rfl
   have r17_2 := ((yx Q9).at' 1 _ rfl).cell 2 _ rfl
   have x17_0 := ((yx Q9).at' 1 _ rfl).free 0
   have x17_1 := ((yx Q9).at' 1 _ rfl).free 1
   have x17_2 := ((yx Q9).at' 1 _ rfl).free 2
   have hne17 : ∀ x ∈ ([(db, [.int .i64 wd, .int .i64 ht, .string s], 26)] : List (Nat × List Value × TypeId)), x.1 ≠ w.heap.size := by simp; omega
   have Q17 := yz (((((yx Q9).db.pick (bs' := (w.heap.size, [.int .i64 0, .int .i64 0, .string ⟨#[]⟩], 26) :: [(db, [.int .i64 wd, .int .i64 ht, .string s], 26)]) (by intro x hx; simp only [List.mem_cons, List.not_mem_nil, or_false] at hx; rcases hx with rfl | rfl <;> simp)).set hne17 0 (.int .i64 wd)).set hne17 1 (.int .i64 ht)).set hne17 2 (.string s))
   go_simp
   clear r17_0 x17_0 r17_1 x17_1 r17_2 x17_2
   generalize (((w9.setCell ⟨w.heap.size, 0, none⟩ (.int .i64 wd)).setCell ⟨w.heap.size, 1, none⟩ (.int .i64 ht)).setCell ⟨w.heap.size, 2, none⟩ (.string s)) = u17 at Q17 ⊢
   refine hK.out _ _ ?_ (fun hHeld17 => ?_)
   ·exact ⟨((yx Q17).at' 1 _ rfl).cell 0 _ rfl, ((yx Q17).at' 1 _ rfl).cell 1 _ rfl, ((yx Q17).at' 1 _ rfl).cell 2 _ rfl⟩
   clear hK K
   refine wpAnyH_ready (rs := [1]) (by kernel_rfl) (by simp) ?_
   refine (AllReadyH.cons rfl (fun K hK => ?_) AllReadyH.nil)
   go_simp
   have Q18 := yz ((yx Q17).alloc [.int .i64 10, .int .i64 10, .int .i64 40, .int .i64 0, .int .i64 1, .int .i64 255, .int .i64 (-1), .int .i64 256] 2)
   have hlw18 := ((yx Q17).at' 1 _ rfl).lt
   generalize u17.alloc (.cells #[.int .i64 10, .int .i64 10, .int .i64 40, .int .i64 0, .int .i64 1, .int .i64 255, .int .i64 (-1), .int .i64 256] 2) = v18 at Q18 ⊢
   generalize u17.heap.size = lb18 at *
   refine hK.out _ _ ?_ (fun hHeld18 => ?_)
   ·exact ⟨((yx Q18).at' 2 _ rfl).cell 0 _ rfl, ((yx Q18).at' 2 _ rfl).cell 1 _ rfl, ((yx Q18).at' 2 _ rfl).cell 2 _ rfl⟩
   clear hK K
   refine aa 4 rfl ?_
   try simp only [Act.put, ag, ah, ai]
   refine wpAnyH_ready (rs := [5]) (by kernel_rfl) (by simp) ?_
   refine (AllReadyH.cons rfl (fun K hK => ?_) AllReadyH.nil)
   obtain ⟨z19, hz19⟩ := ch ((yx Q18).at' 0 _ rfl) (by simp) hi9n
   go_simp
   refine hK.out _ _ ?_ (fun hHeld19 => ?_)
   ·exact ⟨((yx Q18).at' 2 _ rfl).cell 0 _ rfl, ((yx Q18).at' 2 _ rfl).cell 1 _ rfl, ((yx Q18).at' 2 _ rfl).cell 2 _ rfl⟩
   clear hK K
   refine wpAnyH_ready (rs := [7]) (by kernel_rfl) (by simp) ?_
   refine (AllReadyH.cons rfl (fun K hK => ?_) AllReadyH.nil)
   go_simp
   refine hK.out _ _ ?_ (fun hHeld20 => ?_)
   ·exact ⟨((yx Q18).at' 2 _ rfl).cell 0 _ rfl, ((yx Q18).at' 2 _ rfl).cell 1 _ rfl, ((yx Q18).at' 2 _ rfl).cell 2 _ rfl⟩
   clear hK K
   refine wpAnyH_done (by kernel_rfl) ?_ _
   have u0 := ((yx Q18).at' 1 _ rfl).cell 0 _ rfl
   have u1 := ((yx Q18).at' 1 _ rfl).cell 1 _ rfl
   have u2 := ((yx Q18).at' 1 _ rfl).cell 2 _ rfl
   go_wp2_with fail
   exact bodyPost_ret (v := .tuple #[.agg #[.int .i64 wd, .int .i64 ht, .string s], .int .i64 z19]) (by simp [results, Try.results9, go_sem, u0, u1, u2]) rfl ⟨⟨_, _, _, _, rfl, hs⟩, (yx Q18).bel⟩
theorem bh.same {w w' : World} {g n : Nat} {f : Nat → Int} (h : bh w g n f) (e : w'.heap[g]? = w.heap[g]?) : bh w' g n f := fun j hj => by
 obtain ⟨h1, h2⟩ := h j hj
 refine ⟨?_, ?_⟩
 ·rw [← h1]; simp only [World.cell?, e]
 ·rw [← h2]; simp only [World.frozen?, e]
theorem bh.convS {w : World} {g n : Nat} {f : Nat → Int} (h : bh w g n f) (cap : Nat) : ∃ s : ByteArray, s.size = n ∧ (convert 29 9 (.slice (some ⟨g, 0, none⟩) n cap)).run Try.prog w = .ok (.string s) w := by
 refine ⟨strOfNums ((List.range n).map f), by show Array.size _ = n; simp [strOfNums], ?_⟩
 refine run_convert_bytes_arg (P := Try.prog) _ 29 5 Try.underlying29 Try.underlying5 g 0 n cap ((List.range n).map f) (by simp) ?_ 9 Try.underlying9
 intro i hi
 rw [Nat.zero_add, (h i hi).1]
 congr 2
 rw [List.getD, List.getElem?_map, List.getElem?_range hi]
 rfl
theorem Dw.set {w wr : World} {sb : Nat} {bs : List (Nat × List Value × TypeId)} {b : Nat} {cs : List Value} {t : TypeId} (h : Dw w wr sb ((b, cs, t) :: bs)) (hy : ∀ x ∈ bs, x.1 ≠ b) (hb : sb < b) (i : Nat) (v : Value) : Dw w (wr.setCell ⟨b, i, none⟩ v) sb ((b, cs.set i v, t) :: bs) := by
 have g := Db.set h.db hy i v
 refine ⟨h.src.kept (fu (fQ wr (some b)) i v) (fun k e => by have := Option.some.inj e; omega), g.bel, h.lo, fun k x e => ⟨(g.bl k x e).1, ?_, (g.bl k x e).2⟩⟩
 cases k with
 | zero => cases e; show b ≠ sb; omega
 | succ k => exact (h.bl (k + 1) x e).2.1
theorem Dw.far {w wr wx : World} {sb g : Nat} {bs : List (Nat × List Value × TypeId)} (h : Dw w wr sb bs) (hg : wr.grownBy wx (some g)) (hsg : sb < g) (hy : ∀ x ∈ bs, x.1 ≠ g) : Dw w wx sb bs :=
 ⟨h.src.kept hg (fun k e => by have := Option.some.inj e; omega), gj h.bel hg (Nat.le_trans h.lo (Nat.le_of_lt hsg)) h.bel.size, h.lo, fun k x e => ⟨(h.bl k x e).1.grownC hg (hy x (List.mem_of_getElem? e)), (h.bl k x e).2⟩⟩
theorem Dw.keptB {w wr wx : World} {sb : Nat} {bs : List (Nat × List Value × TypeId)} (h : Dw w wr sb bs) (hx : Below wr.heap.size wr wx) : Dw w wx sb bs :=
 ⟨h.src.kept (row := none) ⟨hx.os, hx.tape, hx.output, hx.size, fun k hk _ => hx.block k hk⟩ (fun _ e => by cases e), aj h.bel hx, h.lo, fun k x e => ⟨(h.bl k x e).1.kept hx, (h.bl k x e).2⟩⟩
theorem Db.drewn {w wr : World} {bs : List (Nat × List Value × TypeId)} (h : Db w wr bs) : Db w wr.drew bs := ⟨h.bel.drew, h.bl⟩
theorem iU (T : Array Value) (X : World) (b c : Nat) (v0 v1 v2 u0 u1 u2 : Value) (hT : T.getD 2 undef = .pointer (some ⟨b, 0, none⟩)) (hT3 : T.getD 3 undef = .pointer (some ⟨c, 0, none⟩)) (h : Blk X b [v0, v1, v2] 26) (g : Blk X c [u0, u1, u2] 26) : (results Try.f12 T).run Try.prog X = .ok (.tuple #[.agg #[v0, v1, v2], .agg #[u0, u1, u2]]) X := by
 obtain ⟨h0, h1, h2⟩ := cd (h)
 obtain ⟨g0, g1, g2⟩ := cd (g)
 simp only [Array.getD_eq_getD_getElem?] at hT hT3
 simp [results, Try.results12, go_sem, hT, hT3, h0, h1, h2, g0, g1, g2]
theorem ft (a : Option Addr) (len cap : Nat) (w : World) (hl : len ≤ 1048576) (hR : Row w a len w.heap.size) :
  Calls Try.prog 12 #[.slice a len cap] w fun e w' => (∃ (wd ht wd2 ht2 : Int) (s s2 : ByteArray), e = .returned (.tuple #[.agg #[.int .i64 wd, .int .i64 ht, .string s], .agg #[.int .i64 wd2, .int .i64 ht2, .string s2]]) ∧ s.size ≤ 200 ∧ s2.size ≤ 200) ∧ Below w.heap.size w w' := by
 have B0 := be w (.cells #[.int .i64 0, .int .i64 0, .string ⟨#[]⟩] 26) (.cells #[.int .i64 0, .int .i64 0, .string ⟨#[]⟩] 26)
 have R0 := (al w [.int .i64 0, .int .i64 0, .string ⟨#[]⟩] 26).alloc (.cells #[.int .i64 0, .int .i64 0, .string ⟨#[]⟩] 26)
 have Q0 := al (w.alloc (.cells #[.int .i64 0, .int .i64 0, .string ⟨#[]⟩] 26)) [.int .i64 0, .int .i64 0, .string ⟨#[]⟩] 26
 have e1 : (w.alloc (.cells #[.int .i64 0, .int .i64 0, .string ⟨#[]⟩] 26)).heap.size = w.heap.size + 1 := by simp
 rw [e1] at Q0
 go_enter Try.func12, Try.ntmps12
 go_wp2_with fail
 generalize (w.alloc (.cells #[.int .i64 0, .int .i64 0, .string ⟨#[]⟩] 26)).alloc (.cells #[.int .i64 0, .int .i64 0, .string ⟨#[]⟩] 26) = W0 at B0 R0 Q0 ⊢
 refine (cO a len cap _ hl (hR.belowF B0)).mono ?_
 rintro e W1 ⟨rfl, hS1, hx⟩
 have H1 := yz (fN B0 [(w.heap.size, [.int .i64 0, .int .i64 0, .string ⟨#[]⟩], 26), (w.heap.size + 1, [.int .i64 0, .int .i64 0, .string ⟨#[]⟩], 26)] (fun k x e => by
  match k, e with
  | 0, e => cases e; exact ⟨R0, Nat.le_refl _⟩
  | 1, e => cases e; exact ⟨Q0, by show w.heap.size ≤ w.heap.size + 1; omega⟩) hS1 hx)
 have hsb : w.heap.size + 1 < W0.heap.size := Q0.lt
 generalize W0.heap.size = sb at *
 clear hx B0 R0 Q0 e1 hS1
 go_wp2_with fail
 refine (bD sb _ (yx H1).src).mono ?_
 rintro e W2 ⟨wd, ht, s, rfl, hs, hS2, hg2⟩
 have H2 := yz (((yx H1).call hS2 hg2).alloc [.int .i64 wd, .int .i64 ht, .string s] 26)
 have hlt2 := hS2.lt
 clear H1 hS2 hg2
 go_wp2_with fail
 generalize W2.alloc (.cells #[.int .i64 wd, .int .i64 ht, .string s] 26) = W3 at H2 ⊢
 generalize W2.heap.size = fb at *
 have hfl : fb < W3.heap.size := ((yx H2).at' 0 _ rfl).lt
 refine (bD sb _ (yx H2).src).mono ?_
 rintro e W4 ⟨wd2, ht2, s2, rfl, hs2, hS4, hg4⟩
 have hfl4 : fb < W4.heap.size := Nat.lt_of_lt_of_le hfl hg4.size
 have H4 := yz (((yx H2).call hS4 hg4).alloc [.int .i64 wd2, .int .i64 ht2, .string s2] 26)
 clear H2 hS4 hg4 hfl
 go_wp2_with fail
 generalize W4.alloc (.cells #[.int .i64 wd2, .int .i64 ht2, .string s2] 26) = W5 at H4 ⊢
 generalize W4.heap.size = db at *
 have hdl : db < W5.heap.size := ((yx H4).at' 0 _ rfl).lt
 refine (cu sb 4 _ (yx H4).src (by omega)).mono ?_
 rintro e W6 ⟨y, rfl, hS6, hg6⟩
 have H6 := yz ((yx H4).call hS6 hg6)
 have hdl6 : db < W6.heap.size := Nat.lt_of_lt_of_le hdl hg6.size
 clear H4 hS6 hg6 hdl
 have f0 := ((yx H6).at' 1 _ rfl).cell 0 _ rfl
 have f1 := ((yx H6).at' 1 _ rfl).cell 1 _ rfl
 have f2 := ((yx H6).at' 1 _ rfl).cell 2 _ rfl
 have d0 := ((yx H6).at' 0 _ rfl).cell 0 _ rfl
 have d1 := ((yx H6).at' 0 _ rfl).cell 1 _ rfl
 have d2 := ((yx H6).at' 0 _ rfl).cell 2 _ rfl
 cases y
 ·have x0 := ((yx H6).at' 0 _ rfl).free 0
  have x1 := ((yx H6).at' 0 _ rfl).free 1
  have x2 := ((yx H6).at' 0 _ rfl).free 2
  have hy : ∀ x ∈ ([(fb, [.int .i64 wd, .int .i64 ht, .string s], 26), (w.heap.size, [.int .i64 0, .int .i64 0, .string ⟨#[]⟩], 26), (w.heap.size + 1, [.int .i64 0, .int .i64 0, .string ⟨#[]⟩], 26)] : List (Nat × List Value × TypeId)), x.1 ≠ db := by simp; omega
  have H7 := yz ((((yx H6).set hy (by omega) 0 (.int .i64 wd)).set hy (by omega) 1 (.int .i64 ht)).set hy (by omega) 2 (.string s))
  have hdl7 : db < (((W6.setCell ⟨db, 0, none⟩ (.int .i64 wd)).setCell ⟨db, 1, none⟩ (.int .i64 ht)).setCell ⟨db, 2, none⟩ (.string s)).heap.size := ((yx H7).at' 0 _ rfl).lt
  obtain ⟨gb, hgb⟩ : ∃ g, g = W6.heap.size := ⟨_, rfl⟩
  have es : (((W6.setCell ⟨db, 0, none⟩ (.int .i64 wd)).setCell ⟨db, 1, none⟩ (.int .i64 ht)).setCell ⟨db, 2, none⟩ (.string s)).heap.size = gb := by rw [hgb]; simp [World.setCell]
  obtain ⟨cap2, W8, hcv, hBr, hB8, hz8⟩ := fn s (((W6.setCell ⟨db, 0, none⟩ (.int .i64 wd)).setCell ⟨db, 1, none⟩ (.int .i64 ht)).setCell ⟨db, 2, none⟩ (.string s))
  have H8 := yz ((yx H7).keptB hB8)
  rw [es] at hcv hBr hz8 hdl7
  have hdg : db < gb := hdl7
  clear hB8 es
  go_wp2_with fail
  rw [← hgb]
  generalize ((W6.setCell ⟨db, 0, none⟩ (.int .i64 wd)).setCell ⟨db, 1, none⟩ (.int .i64 ht)).setCell ⟨db, 2, none⟩ (.string s) = W7 at *
  have HBr := yz hBr
  have hgl : gb < W8.heap.size := by omega
  clear hcv hBr hz8 H7 H6 hgb hdl7 x0 x1 x2 f0 f1 f2 d0 d1 d2 hdl6
  go_loopw [8] (fun v wr => ∃ (k : Nat) (f : Nat → Int), v = .int .i64 k ∧ k ≤ s.size ∧ gb < wr.heap.size ∧ Hid (Dw w wr sb [(db, [.int .i64 wd, .int .i64 ht, .string s], 26), (fb, [.int .i64 wd, .int .i64 ht, .string s], 26), (w.heap.size, [.int .i64 0, .int .i64 0, .string ⟨#[]⟩], 26), (w.heap.size + 1, [.int .i64 0, .int .i64 0, .string ⟨#[]⟩], 26)]) ∧ Hid (bh wr gb s.size f)) (fun v _ => s.size - (intOf v).toNat)
  case atStart => exact ⟨0, _, rfl, by omega, hgl, H8, HBr⟩
  case round =>
   obtain ⟨k, f, rfl, hk, hgr, HD, HB⟩ := hrel
   clear H8 HBr
   by_cases hks : k < s.size
   ·have hkz : (k : Int) < (s.size : Int) := by omega
    go_wp2_with fail
    refine (bC sb 9 _ (yx HD).src (by omega)).mono ?_
    rintro e W9 ⟨m, rfl, hm0, hm1, _, hS9, hg9⟩
    have hm2 := hm1 (by omega)
    have HD9 := yz ((yx HD).call hS9 hg9)
    have HB9 := yz ((yx HB).same (hg9.block gb hgr (fun e => by have := Option.some.inj e; omega)))
    have hg2 : gb < W9.heap.size := Nat.lt_of_lt_of_le hgr hg9.size
    clear hS9 hg9 HD HB hm1
    have ck := (yx HB9 k hks).1
    have fk := (yx HB9 k hks).2
    have hmw : IntKind.u8.wrap m = m := by rw [IntKind.wrap_u8']; omega
    have HM := yz hmw
    clear hmw
    have hyg : ∀ x ∈ ([(db, [.int .i64 wd, .int .i64 ht, .string s], 26), (fb, [.int .i64 wd, .int .i64 ht, .string s], 26), (w.heap.size, [.int .i64 0, .int .i64 0, .string ⟨#[]⟩], 26), (w.heap.size + 1, [.int .i64 0, .int .i64 0, .string ⟨#[]⟩], 26)] : List (Nat × List Value × TypeId)), x.1 ≠ gb := by simp; omega
    have HDx := yz (fun (v : Value) => (yx HD9).far (fu (fQ W9 (some gb)) k v) (by omega) hyg)
    have HBx := yz (fun (v : Int) => (yx HB9).set k hks v)
    clear hyg
    go_wp2_with fail
    go_roundw
    case rel => exact ⟨k + 1, _, by go_num, by omega, by simpa [World.setCell] using hg2, yz (yx HDx _), yz (yx HBx _)⟩
    case measure => simp [intOf] <;> omega
   ·have hkz : ¬ (k : Int) < (s.size : Int) := by omega
    obtain ⟨t, htz, hcv⟩ := (yx HB).convS cap2
    have HZ := yz htz
    clear htz
    have d2 := ((yx HD).at' 0 _ rfl).cell 2 _ rfl
    have x2 := ((yx HD).at' 0 _ rfl).free 2
    have HT := yz ((yx HD).set hy (by omega) 2 (.string t))
    clear HD HB
    go_wp2_with fail
    clear hcv d2 x2
    generalize wr.setCell ⟨db, 2, none⟩ (.string t) = W10 at *
    have c0 := ((yx HT).at' 1 _ rfl).cell 0 _ rfl
    have c1 := ((yx HT).at' 1 _ rfl).cell 1 _ rfl
    have c2 := ((yx HT).at' 1 _ rfl).cell 2 _ rfl
    have e0 := ((yx HT).at' 0 _ rfl).cell 0 _ rfl
    have e1 := ((yx HT).at' 0 _ rfl).cell 1 _ rfl
    have e2 := ((yx HT).at' 0 _ rfl).cell 2 _ rfl
    have g0 := ((yx HT).at' 2 _ rfl).cell 0 _ rfl
    have gx0 := ((yx HT).at' 2 _ rfl).free 0
    have g1 := ((yx HT).at' 2 _ rfl).cell 1 _ rfl
    have gx1 := ((yx HT).at' 2 _ rfl).free 1
    have g2 := ((yx HT).at' 2 _ rfl).cell 2 _ rfl
    have gx2 := ((yx HT).at' 2 _ rfl).free 2
    have h0 := ((yx HT).at' 3 _ rfl).cell 0 _ rfl
    have hx0 := ((yx HT).at' 3 _ rfl).free 0
    have h1 := ((yx HT).at' 3 _ rfl).cell 1 _ rfl
    have hx1 := ((yx HT).at' 3 _ rfl).free 1
    have h2 := ((yx HT).at' 3 _ rfl).cell 2 _ rfl
    have hx2 := ((yx HT).at' 3 _ rfl).free 2
    have P1 : Db w W10 [(w.heap.size, [.int .i64 0, .int .i64 0, .string ⟨#[]⟩], 26), (w.heap.size + 1, [.int .i64 0, .int .i64 0, .string ⟨#[]⟩], 26)] := (yx HT).db.pick (by intro x hx; simp only [List.mem_cons, List.not_mem_nil, or_false] at hx; rcases hx with rfl | rfl <;> simp)
    have P2 := ((P1.set (by simp) 0 (.int .i64 wd)).set (by simp) 1 (.int .i64 ht)).set (by simp) 2 (.string s)
    have P3 := P2.pick (bs' := [(w.heap.size + 1, [.int .i64 0, .int .i64 0, .string ⟨#[]⟩], 26), (w.heap.size, [.int .i64 wd, .int .i64 ht, .string s], 26)]) (by intro x hx; simp only [List.mem_cons, List.not_mem_nil, or_false] at hx; rcases hx with rfl | rfl <;> simp)
    have P4 := yz (((P3.set (by simp) 0 (.int .i64 wd)).set (by simp) 1 (.int .i64 ht)).set (by simp) 2 (.string t))
    clear P1 P2 P3 HT
    have P5 := yz (yx P4).drewn
    clear P4
    obtain ⟨W9, hW9⟩ : ∃ W, W = ((((((W10.setCell ⟨w.heap.size, 0, none⟩ (.int .i64 wd)).setCell ⟨w.heap.size, 1, none⟩ (.int .i64 ht)).setCell ⟨w.heap.size, 2, none⟩ (.string s)).setCell ⟨w.heap.size + 1, 0, none⟩ (.int .i64 wd)).setCell ⟨w.heap.size + 1, 1, none⟩ (.int .i64 ht)).setCell ⟨w.heap.size + 1, 2, none⟩ (.string t)).drew := ⟨_, rfl⟩
    rw [← hW9] at P5
    go_region
    rw [← hW9]
    clear hW9
    go_wp2_with fail
    have q0 := (yx P5).at' 1 _ rfl
    have q1 := (yx P5).at' 0 _ rfl
    exact bodyPost_ret (v := .tuple #[.agg #[.int .i64 wd, .int .i64 ht, .string s], .agg #[.int .i64 wd, .int .i64 ht, .string t]]) (iU _ W9 w.heap.size (w.heap.size + 1) _ _ _ _ _ _ rfl rfl q0 q1) rfl ⟨⟨wd, ht, wd, ht, s, t, rfl, hs, by rw [yx HZ]; exact hs⟩, (yx P5).bel⟩
 ·go_wp2_with fail
  clear f0 f1 f2 d0 d1 d2
  have c0 := ((yx H6).at' 1 _ rfl).cell 0 _ rfl
  have c1 := ((yx H6).at' 1 _ rfl).cell 1 _ rfl
  have c2 := ((yx H6).at' 1 _ rfl).cell 2 _ rfl
  have e0 := ((yx H6).at' 0 _ rfl).cell 0 _ rfl
  have e1 := ((yx H6).at' 0 _ rfl).cell 1 _ rfl
  have e2 := ((yx H6).at' 0 _ rfl).cell 2 _ rfl
  have g0 := ((yx H6).at' 2 _ rfl).cell 0 _ rfl
  have gx0 := ((yx H6).at' 2 _ rfl).free 0
  have g1 := ((yx H6).at' 2 _ rfl).cell 1 _ rfl
  have gx1 := ((yx H6).at' 2 _ rfl).free 1
  have g2 := ((yx H6).at' 2 _ rfl).cell 2 _ rfl
  have gx2 := ((yx H6).at' 2 _ rfl).free 2
  have h0 := ((yx H6).at' 3 _ rfl).cell 0 _ rfl
  have hx0 := ((yx H6).at' 3 _ rfl).free 0
  have h1 := ((yx H6).at' 3 _ rfl).cell 1 _ rfl
  have hx1 := ((yx H6).at' 3 _ rfl).free 1
  have h2 := ((yx H6).at' 3 _ rfl).cell 2 _ rfl
  have hx2 := ((yx H6).at' 3 _ rfl).free 2
  have P1 : Db w W6 [(w.heap.size, [.int .i64 0, .int .i64 0, .string ⟨#[]⟩], 26), (w.heap.size + 1, [.int .i64 0, .int .i64 0, .string ⟨#[]⟩], 26)] := (yx H6).db.pick (by intro x hx; simp only [List.mem_cons, List.not_mem_nil, or_false] at hx; rcases hx with rfl | rfl <;> simp)
  have P2 := ((P1.set (by simp) 0 (.int .i64 wd)).set (by simp) 1 (.int .i64 ht)).set (by simp) 2 (.string s)
  have P3 := P2.pick (bs' := [(w.heap.size + 1, [.int .i64 0, .int .i64 0, .string ⟨#[]⟩], 26), (w.heap.size, [.int .i64 wd, .int .i64 ht, .string s], 26)]) (by intro x hx; simp only [List.mem_cons, List.not_mem_nil, or_false] at hx; rcases hx with rfl | rfl <;> simp)
  have P4 := yz (((P3.set (by simp) 0 (.int .i64 wd2)).set (by simp) 1 (.int .i64 ht2)).set (by simp) 2 (.string s2))
  clear P1 P2 P3
  have P5 := yz (yx P4).drewn
  clear P4
  obtain ⟨W9, hW9⟩ : ∃ W, W = ((((((W6.setCell ⟨w.heap.size, 0, none⟩ (.int .i64 wd)).setCell ⟨w.heap.size, 1, none⟩ (.int .i64 ht)).setCell ⟨w.heap.size, 2, none⟩ (.string s)).setCell ⟨w.heap.size + 1, 0, none⟩ (.int .i64 wd2)).setCell ⟨w.heap.size + 1, 1, none⟩ (.int .i64 ht2)).setCell ⟨w.heap.size + 1, 2, none⟩ (.string s2)).drew := ⟨_, rfl⟩
  rw [← hW9] at P5
  go_region
  rw [← hW9]
  clear hW9
  go_wp2_with fail
  have q0 := (yx P5).at' 1 _ rfl
  have q1 := (yx P5).at' 0 _ rfl
  exact bodyPost_ret (v := .tuple #[.agg #[.int .i64 wd, .int .i64 ht, .string s], .agg #[.int .i64 wd2, .int .i64 ht2, .string s2]]) (iU _ W9 w.heap.size (w.heap.size + 1) _ _ _ _ _ _ rfl rfl q0 q1) rfl ⟨⟨wd, ht, wd2, ht2, s, s2, rfl, hs, hs2⟩, (yx P5).bel⟩
end
end Go.Proofs.Ytackifnnhjbgbaa
