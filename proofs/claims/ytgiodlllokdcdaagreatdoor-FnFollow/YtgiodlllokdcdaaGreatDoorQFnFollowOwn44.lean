/- Several texts in one: FlA. -/
import Derived.Test.YtgiodlllokdcdaaGreatDoorQFnFollowOwn41
import Derived.Test.YtgiodlllokdcdaaGreatDoorQFnFollowOwn43
import Derived.Test.YtgiodlllokdcdaaGreatDoorQFnFollowOwn39
import Derived.Test.YtgiodlllokdcdaaGreatDoorQFnFollowOwn12
import Derived.Test.YtgiodlllokdcdaaGreatDoorQFnFollowOwn37
import Derived.Test.YtgiodlllokdcdaaGreatDoorQFnFollowOwn25
import Derived.Test.YtgiodlllokdcdaaGreatDoorQFnFollowOwn35
import Derived.Test.YtgiodlllokdcdaaGreatDoorQFnFollowOwn1
namespace Go.Proofs.YtgiodlllokdcdaaGreatDoor
set_option linter.unusedVariables false
set_option linter.unusedSimpArgs false
set_option maxRecDepth 100000
set_option maxHeartbeats 8000000
section
open Go.RowKit Go.Sort
theorem jO (g1 g2 g3 g4 a b c d : Int) (w : World) :
    Calls Tryz.prog 21 #[.agg #[.int .i64 g1, .int .i64 g2, .int .i64 g3, .int .i64 g4], .agg #[.int .i64 a, .int .i64 b, .int .i64 c, .int .i64 d]] w fun e w' => e = .returned (.agg #[.int .i64 (ku g1 g2 g3 g4 a b c d), .int .i64 (kw g1 g2 g3 g4 a b c d), .int .i64 (kx g1 g2 g3 g4 a b c d), .int .i64 (ky g1 g2 g3 g4 a b c d), .int .i64 (coK g1 g2 g3 g4 a b c d)]) ∧ Below w.heap.size w w' := gt g1 g2 g3 g4 a b c d w
theorem sL (ca da : Option Addr) (len cc len2 dc : Nat) (p : Addr) (w : World) (hl : len ≤ 1048576) (hl2 : len2 ≤ 1048576) (hR : Row w ca len w.heap.size) (hR2 : Row w da len2 w.heap.size) (hE : bj p w) :
    Calls Tryz.prog 4 #[.slice ca len cc, .slice da len2 dc] w fun e w' => e = .returned (.bool true) ∧ Below w.heap.size w w' := by
  have h1 : ¬ (1048576 : Int) < (len : Int) := by omega
  have h2 : ¬ (1048576 : Int) < (len2 : Int) := by omega
  have cD := yz (nS ca len cc w hl hR)
  have HR2 := yz hR2
  have HE := yz hE
  clear hR hR2 hE
  go_enter Tryz.func4, Tryz.ntmps4
  go_wp2_with fail
  refine (yy cD).mono ?_
  rintro e W1 ⟨t, g1, g2, g3, g4, a, cap, rfl, hlen, hC1, hB1⟩
  have HE1 := yz ((yy HE).kept hB1)
  have HC1 := yz hC1
  have HB1 := yz hB1
  clear hC1 hB1 cD HE h1 h2
  have hy := aM W1 (.cells #[.slice a t.L.length cap, .int .i64 t.lim, .int .i64 t.mode, .int .i64 t.A, .int .i64 t.B, .int .i64 t.C, .int .i64 t.D, .int .i64 t.coast, .int .i64 t.fr] 27) (.cells #[.int .i64 g1, .int .i64 g2, .int .i64 g3, .int .i64 g4] 25)
  have HT := yz ((aF W1 [.slice a t.L.length cap, .int .i64 t.lim, .int .i64 t.mode, .int .i64 t.A, .int .i64 t.B, .int .i64 t.C, .int .i64 t.D, .int .i64 t.coast, .int .i64 t.fr] 27).alloc (.cells #[.int .i64 g1, .int .i64 g2, .int .i64 g3, .int .i64 g4] 25))
  have HG : Hid (Blk ((W1.alloc (.cells #[.slice a t.L.length cap, .int .i64 t.lim, .int .i64 t.mode, .int .i64 t.A, .int .i64 t.B, .int .i64 t.C, .int .i64 t.D, .int .i64 t.coast, .int .i64 t.fr] 27)).alloc (.cells #[.int .i64 g1, .int .i64 g2, .int .i64 g3, .int .i64 g4] 25)) (W1.heap.size + 1) [.int .i64 g1, .int .i64 g2, .int .i64 g3, .int .i64 g4] 25) := yz (by have h := aF (W1.alloc (.cells #[.slice a t.L.length cap, .int .i64 t.lim, .int .i64 t.mode, .int .i64 t.A, .int .i64 t.B, .int .i64 t.C, .int .i64 t.D, .int .i64 t.coast, .int .i64 t.fr] 27)) [.int .i64 g1, .int .i64 g2, .int .i64 g3, .int .i64 g4] 25; simpa using h)
  have HE2 := yz ((yy HE1).kept hy)
  have HC2 : Hid (ay _ w.heap.size t.L a cap) := yz ((yy HC1).kept hy)
  have HB2 := yz (aj (yy HB1) hy)
  clear hy HE1 HC1 HB1
  go_upto_region 4 with fail
  have hcm : cap ≤ 9223372036854775807 := by have h1 := (yy HC2).capMax.2; have h2 : maxLen ≤ 9223372036854775807 := by decide +kernel
                                             omega
  have cG := yz (fun (W : World) (hE : bj p W) (hS : aI W a t.L t.L.length) => oe t.L t.lim t.mode t.A t.B t.C t.D t.coast t.fr g1 g2 g3 g4 a cap p W (by omega) (yy HC2).capMax.1 hcm hE hS)
  have cS := yz (fun (W : World) (hS : aI W a t.L t.L.length) => jr t.L t.lim t.mode t.A t.B t.C t.D t.coast t.fr g1 g2 g3 g4 a cap W (by omega) hS)
  obtain ⟨u, HU⟩ : ∃ u, u = eb ⟨t.L, t.lim, t.mode, t.A, t.B, t.C, t.D, t.coast, t.fr⟩ g1 g2 g3 g4 := ⟨_, rfl⟩
  obtain ⟨code, HCO⟩ : ∃ u, u = fq ⟨t.L, t.lim, t.mode, t.A, t.B, t.C, t.D, t.coast, t.fr⟩ g1 g2 g3 g4 := ⟨_, rfl⟩
  rw [← HU, ← HCO] at cG cS
  replace HU := yz HU
  replace HCO := yz HCO
  generalize (W1.alloc (.cells #[.slice a t.L.length cap, .int .i64 t.lim, .int .i64 t.mode, .int .i64 t.A, .int .i64 t.B, .int .i64 t.C, .int .i64 t.D, .int .i64 t.coast, .int .i64 t.fr] 27)).alloc (.cells #[.int .i64 g1, .int .i64 g2, .int .i64 g3, .int .i64 g4] 25) = W2 at *
  obtain ⟨p0, p1, p2, p3, p4, p5, p6, p7, p8⟩ : W2.cell? ⟨W1.heap.size, 0, none⟩ = some (.slice a t.L.length cap) ∧ W2.cell? ⟨W1.heap.size, 1, none⟩ = some (.int .i64 t.lim) ∧ W2.cell? ⟨W1.heap.size, 2, none⟩ = some (.int .i64 t.mode) ∧ W2.cell? ⟨W1.heap.size, 3, none⟩ = some (.int .i64 t.A) ∧ W2.cell? ⟨W1.heap.size, 4, none⟩ = some (.int .i64 t.B) ∧ W2.cell? ⟨W1.heap.size, 5, none⟩ = some (.int .i64 t.C) ∧ W2.cell? ⟨W1.heap.size, 6, none⟩ = some (.int .i64 t.D) ∧ W2.cell? ⟨W1.heap.size, 7, none⟩ = some (.int .i64 t.coast) ∧ W2.cell? ⟨W1.heap.size, 8, none⟩ = some (.int .i64 t.fr) := ⟨(yy HT).cell 0 _ rfl, (yy HT).cell 1 _ rfl, (yy HT).cell 2 _ rfl, (yy HT).cell 3 _ rfl, (yy HT).cell 4 _ rfl, (yy HT).cell 5 _ rfl, (yy HT).cell 6 _ rfl, (yy HT).cell 7 _ rfl, (yy HT).cell 8 _ rfl⟩
  obtain ⟨q0, q1, q2, q3⟩ : W2.cell? ⟨(W1.heap.size + 1), 0, none⟩ = some (.int .i64 g1) ∧ W2.cell? ⟨(W1.heap.size + 1), 1, none⟩ = some (.int .i64 g2) ∧ W2.cell? ⟨(W1.heap.size + 1), 2, none⟩ = some (.int .i64 g3) ∧ W2.cell? ⟨(W1.heap.size + 1), 3, none⟩ = some (.int .i64 g4) := ⟨(yy HG).cell 0 _ rfl, (yy HG).cell 1 _ rfl, (yy HG).cell 2 _ rfl, (yy HG).cell 3 _ rfl⟩
  go_wp2_with fail
  refine (yy cG W2 (yy HE2) (yy HC2).stars).mono ?_
  rintro e W3 ⟨⟨a1, cap1, rfl, hC3⟩, hx⟩
  clear p0 p1 p2 p3 p4 p5 p6 p7 p8 q0 q1 q2 q3
  have hz := hx.size
  have HT3 := yz ((yy HT).kept hx)
  have HG3 := yz ((yy HG).kept hx)
  have HE3 := yz ((yy HE2).kept hx)
  have HC3 := yz ((yy HC2).kept hx)
  have HB3 := yz (aj (yy HB2) hx)
  have HX3 := yz hC3
  clear hx hC3 HT HG HE2 HC2 HB2 cG
  have hy := an W3 (.cells #[.slice a1 u.L.length cap1, .int .i64 u.lim, .int .i64 u.mode, .int .i64 u.A, .int .i64 u.B, .int .i64 u.C, .int .i64 u.D, .int .i64 u.coast, .int .i64 u.fr, .int .i64 code] 32)
  have HXB := yz (aF W3 [.slice a1 u.L.length cap1, .int .i64 u.lim, .int .i64 u.mode, .int .i64 u.A, .int .i64 u.B, .int .i64 u.C, .int .i64 u.D, .int .i64 u.coast, .int .i64 u.fr, .int .i64 code] 32)
  have HT := yz ((yy HT3).kept hy)
  have HG := yz ((yy HG3).kept hy)
  have HE := yz ((yy HE3).kept hy)
  have HC : Hid (ay _ w.heap.size t.L a cap) := yz ((yy HC3).kept hy)
  have HX : Hid (ay _ W2.heap.size u.L a1 cap1) := yz ((yy HX3).kept hy)
  have HB := yz (aj (yy HB3) hy)
  clear hy HT3 HG3 HE3 HC3 HB3 HX3
  have hlu : u.L.length ≤ 1048576 := by rw [yy HU]; have := pA (t := ⟨t.L, t.lim, t.mode, t.A, t.B, t.C, t.D, t.coast, t.fr⟩) g1 g2 g3 g4 hlen; omega
  have HTK : Hid (code = 0 → aS t = true ∧ aB g1 g2 g3 g4 = true ∧ u = aT t g1 g2 g3 g4 ∧ aS u = true) := yz (fun h => by rw [yy HCO] at h; have := qB h; rw [yy HU]; exact this)
  go_upto_region 5 with fail
  generalize W3.alloc (.cells #[.slice a1 u.L.length cap1, .int .i64 u.lim, .int .i64 u.mode, .int .i64 u.A, .int .i64 u.B, .int .i64 u.C, .int .i64 u.D, .int .i64 u.coast, .int .i64 u.fr, .int .i64 code] 32) = W4 at *
  generalize W3.heap.size = xb at *
  have HKS : Hid (∀ w' : World, Below W4.heap.size W4 w' → w'.cell? ⟨xb, 0, none⟩ = some (.slice a1 u.L.length cap1) ∧ w'.cell? ⟨xb, 1, none⟩ = some (.int .i64 u.lim) ∧ w'.cell? ⟨xb, 2, none⟩ = some (.int .i64 u.mode) ∧ w'.cell? ⟨xb, 3, none⟩ = some (.int .i64 u.A) ∧ w'.cell? ⟨xb, 4, none⟩ = some (.int .i64 u.B) ∧ w'.cell? ⟨xb, 5, none⟩ = some (.int .i64 u.C) ∧ w'.cell? ⟨xb, 6, none⟩ = some (.int .i64 u.D) ∧ w'.cell? ⟨xb, 7, none⟩ = some (.int .i64 u.coast) ∧ w'.cell? ⟨xb, 8, none⟩ = some (.int .i64 u.fr) ∧ w'.cell? ⟨xb, 9, none⟩ = some (.int .i64 code) ∧ w'.cell? ⟨W1.heap.size, 0, none⟩ = some (.slice a t.L.length cap) ∧ w'.cell? ⟨W1.heap.size, 1, none⟩ = some (.int .i64 t.lim) ∧ w'.cell? ⟨W1.heap.size, 2, none⟩ = some (.int .i64 t.mode) ∧ w'.cell? ⟨W1.heap.size, 3, none⟩ = some (.int .i64 t.A) ∧ w'.cell? ⟨W1.heap.size, 4, none⟩ = some (.int .i64 t.B) ∧ w'.cell? ⟨W1.heap.size, 5, none⟩ = some (.int .i64 t.C) ∧ w'.cell? ⟨W1.heap.size, 6, none⟩ = some (.int .i64 t.D) ∧ w'.cell? ⟨W1.heap.size, 7, none⟩ = some (.int .i64 t.coast) ∧ w'.cell? ⟨W1.heap.size, 8, none⟩ = some (.int .i64 t.fr) ∧ w'.cell? ⟨W1.heap.size + 1, 0, none⟩ = some (.int .i64 g1) ∧ w'.cell? ⟨W1.heap.size + 1, 1, none⟩ = some (.int .i64 g2) ∧ w'.cell? ⟨W1.heap.size + 1, 2, none⟩ = some (.int .i64 g3) ∧ w'.cell? ⟨W1.heap.size + 1, 3, none⟩ = some (.int .i64 g4)) := yz (fun w' h => ⟨((yy HXB).kept h).cell 0 _ rfl, ((yy HXB).kept h).cell 1 _ rfl, ((yy HXB).kept h).cell 2 _ rfl, ((yy HXB).kept h).cell 3 _ rfl, ((yy HXB).kept h).cell 4 _ rfl, ((yy HXB).kept h).cell 5 _ rfl, ((yy HXB).kept h).cell 6 _ rfl, ((yy HXB).kept h).cell 7 _ rfl, ((yy HXB).kept h).cell 8 _ rfl, ((yy HXB).kept h).cell 9 _ rfl, ((yy HT).kept h).cell 0 _ rfl, ((yy HT).kept h).cell 1 _ rfl, ((yy HT).kept h).cell 2 _ rfl, ((yy HT).kept h).cell 3 _ rfl, ((yy HT).kept h).cell 4 _ rfl, ((yy HT).kept h).cell 5 _ rfl, ((yy HT).kept h).cell 6 _ rfl, ((yy HT).kept h).cell 7 _ rfl, ((yy HT).kept h).cell 8 _ rfl, ((yy HG).kept h).cell 0 _ rfl, ((yy HG).kept h).cell 1 _ rfl, ((yy HG).kept h).cell 2 _ rfl, ((yy HG).kept h).cell 3 _ rfl⟩)
  have cO := yz (fun (W : World) (a2 : Option Addr) (c2 : Nat) (h1 : aI W a1 u.L u.L.length) (h2 : aI W a2 u.L u.L.length) => qI u.L u.lim u.mode u.A u.B u.C u.D u.coast u.fr code a1 a2 cap1 c2 W hlu h1 h2 (fun h => (yy HTK h).2.2.2))
  go_cut [48] (fun v wx => ∃ wv : World, wv = wx ∧ v = .bool (decide (code ≠ 0 ∨ t.mode = 0 ∨ 1000000 ≤ t.fr)) ∧ Hid (Below W4.heap.size W4 wx))
  case first =>
    rcases (by omega : code ≠ 0 ∨ (code = 0 ∧ t.mode = 0) ∨ (code = 0 ∧ t.mode ≠ 0 ∧ 1000000 ≤ t.fr) ∨ (code = 0 ∧ t.mode ≠ 0 ∧ ¬ 1000000 ≤ t.fr)) with e1 | ⟨e1, e2⟩ | ⟨e1, e2, e3⟩ | ⟨e1, e2, e3⟩
    · replace e1 := yz e1
      have HV : Hid (Below W4.heap.size W4 W4.drew) := yz (Below.refl W4.heap.size W4).drew
      refine wp_region_held_drew (S := (fun w' => w'.cell? ⟨xb, 0, none⟩ = some (.slice a1 u.L.length cap1) ∧ w'.cell? ⟨xb, 1, none⟩ = some (.int .i64 u.lim) ∧ w'.cell? ⟨xb, 2, none⟩ = some (.int .i64 u.mode) ∧ w'.cell? ⟨xb, 3, none⟩ = some (.int .i64 u.A) ∧ w'.cell? ⟨xb, 4, none⟩ = some (.int .i64 u.B) ∧ w'.cell? ⟨xb, 5, none⟩ = some (.int .i64 u.C) ∧ w'.cell? ⟨xb, 6, none⟩ = some (.int .i64 u.D) ∧ w'.cell? ⟨xb, 7, none⟩ = some (.int .i64 u.coast) ∧ w'.cell? ⟨xb, 8, none⟩ = some (.int .i64 u.fr) ∧ w'.cell? ⟨xb, 9, none⟩ = some (.int .i64 code) ∧ w'.cell? ⟨W1.heap.size, 0, none⟩ = some (.slice a t.L.length cap) ∧ w'.cell? ⟨W1.heap.size, 1, none⟩ = some (.int .i64 t.lim) ∧ w'.cell? ⟨W1.heap.size, 2, none⟩ = some (.int .i64 t.mode) ∧ w'.cell? ⟨W1.heap.size, 3, none⟩ = some (.int .i64 t.A) ∧ w'.cell? ⟨W1.heap.size, 4, none⟩ = some (.int .i64 t.B) ∧ w'.cell? ⟨W1.heap.size, 5, none⟩ = some (.int .i64 t.C) ∧ w'.cell? ⟨W1.heap.size, 6, none⟩ = some (.int .i64 t.D) ∧ w'.cell? ⟨W1.heap.size, 7, none⟩ = some (.int .i64 t.coast) ∧ w'.cell? ⟨W1.heap.size, 8, none⟩ = some (.int .i64 t.fr) ∧ w'.cell? ⟨W1.heap.size + 1, 0, none⟩ = some (.int .i64 g1) ∧ w'.cell? ⟨W1.heap.size + 1, 1, none⟩ = some (.int .i64 g2) ∧ w'.cell? ⟨W1.heap.size + 1, 2, none⟩ = some (.int .i64 g3) ∧ w'.cell? ⟨W1.heap.size + 1, 3, none⟩ = some (.int .i64 g4))) (by kernel_rfl) (yy HKS W4 (Below.refl _ _)) (fun hHeld => ?_)
      refine wpAnyH_take (i := 0) (oi := ({ dst := some 28, op := Op.load 32 (Operand.tmp 7), type := 32, pos := "laws.go:427", after := #[], guard := none } : Oper)) (v := ?_) rfl (by kernel_rfl) (by kernel_rfl) (by kernel_rfl) (fun _ _ _ h => h) (Or.inl ⟨by kernel_rfl, ?_⟩) (by assumption) ?_
      rotate_left
      · intro W0 hSw; (try dsimp only at hSw); go_simp <;> with_reducible rfl
      try simp only [Act.put, ag, ah, ai]
      refine wpAnyH_take (i := 1) (oi := ({ dst := some 29, op := Op.load 27 (Operand.tmp 5), type := 27, pos := "laws.go:427", after := #[], guard := none } : Oper)) (v := ?_) rfl (by kernel_rfl) (by kernel_rfl) (by kernel_rfl) (fun _ _ _ h => h) (Or.inl ⟨by kernel_rfl, ?_⟩) (by assumption) ?_
      rotate_left
      · intro W0 hSw; (try dsimp only at hSw); go_simp <;> with_reducible rfl
      try simp only [Act.put, ag, ah, ai]
      refine wpAnyH_take (i := 2) (oi := ({ dst := some 30, op := Op.load 25 (Operand.tmp 6), type := 25, pos := "laws.go:427", after := #[], guard := none } : Oper)) (v := ?_) rfl (by kernel_rfl) (by kernel_rfl) (by kernel_rfl) (fun _ _ _ h => h) (Or.inl ⟨by kernel_rfl, ?_⟩) (by assumption) ?_
      rotate_left
      · intro W0 hSw; (try dsimp only at hSw); go_simp <;> with_reducible rfl
      try simp only [Act.put, ag, ah, ai]
      refine wpAnyH_ready (rs := [3]) (by kernel_rfl) (by simp) ?_
      refine (AllReadyH.cons rfl (fun K hK => ?_) AllReadyH.nil)
      go_simp
      refine (yy cS W4.drew ((yy HC).kept (yy HV)).stars).mono ?_
      rintro e V1 ⟨⟨a2, cap2, rfl, hC2⟩, hx⟩
      replace HV := yz (aj (yy HV) hx)
      have HX2 := yz hC2
      clear hx hC2
      refine hK.out _ _ ?_ (fun hHeld1 => ?_)
      · exact yy HKS _ (yy HV)
      clear hK K
      refine wpAnyH_ready (rs := [4]) (by kernel_rfl) (by simp) ?_
      refine (AllReadyH.cons rfl (fun K hK => ?_) AllReadyH.nil)
      go_simp
      refine (yy cO V1 a2 cap2 ((yy HX).kept (yy HV)).stars (yy HX2).stars).mono ?_
      rintro e V2 ⟨rfl, hx⟩
      replace HV := yz (aj (yy HV) hx)
      clear hx HX2
      refine hK.out _ _ ?_ (fun hHeld2 => ?_)
      · exact yy HKS _ (yy HV)
      clear hK K
      refine wpAnyH_take (i := 5) (oi := ({ dst := some 33, op := Op.unOp UnOp.not 4 (Operand.tmp 32), type := 4, pos := "laws.go:427", after := #[{ on := 4, ground := Ground.data }], guard := none } : Oper)) (v := ?_) rfl (by kernel_rfl) (by kernel_rfl) (by kernel_rfl) (fun _ _ _ h => h) (Or.inl ⟨by kernel_rfl, ?_⟩) (by assumption) ?_
      rotate_left
      · intro W0 hSw; (try dsimp only at hSw); go_simp <;> with_reducible rfl
      try simp only [Act.put, ag, ah, ai]
      refine wpAnyH_take (i := 6) (oi := ({ dst := some 34, op := Op.move (Operand.tmp 33), type := 4, pos := "laws.go:427", after := #[{ on := 5, ground := Ground.data }, { on := 4, ground := Ground.chain }], guard := none } : Oper)) (v := ?_) rfl (by kernel_rfl) (by kernel_rfl) (by kernel_rfl) (fun _ _ _ h => h) (Or.inl ⟨by kernel_rfl, ?_⟩) (by assumption) ?_
      rotate_left
      · intro W0 hSw; (try dsimp only at hSw); go_simp <;> with_reducible rfl
      try simp only [Act.put, ag, ah, ai]
      refine wpAnyH_take (i := 7) (oi := ({ dst := some 35, op := Op.fieldAddr 32 (Operand.tmp 7) 1, type := 0, pos := "laws.go:427", after := #[{ on := 6, ground := Ground.guard }], guard := some (6, false) } : Oper)) (v := ?_) rfl (by kernel_rfl) (by kernel_rfl) (by kernel_rfl) (fun _ _ _ h => h) (Or.inl ⟨by kernel_rfl, ?_⟩) (by assumption) ?_
      rotate_left
      · intro W0 hSw; (try dsimp only at hSw); go_simp <;> with_reducible rfl
      try simp only [Act.put, ag, ah, ai]
      refine wpAnyH_take (i := 8) (oi := ({ dst := some 36, op := Op.load 2 (Operand.tmp 35), type := 2, pos := "laws.go:427", after := #[{ on := 7, ground := Ground.data }, { on := 6, ground := Ground.guard }], guard := some (6, false) } : Oper)) (v := ?_) rfl (by kernel_rfl) (by kernel_rfl) (by kernel_rfl) (fun _ _ _ h => h) (Or.inl ⟨by kernel_rfl, ?_⟩) (by assumption) ?_
      rotate_left
      · intro W0 hSw; (try dsimp only at hSw); go_simp <;> with_reducible rfl
      try simp only [Act.put, ag, ah, ai]
      refine wpAnyH_take (i := 9) (oi := ({ dst := some 37, op := Op.binOp BinOp.neq 2 (Operand.tmp 36) (Operand.const (Value.int IntKind.i64 0)) 2, type := 4, pos := "laws.go:427", after := #[{ on := 8, ground := Ground.data }, { on := 6, ground := Ground.guard }], guard := some (6, false) } : Oper)) (v := (.bool true)) rfl (by kernel_rfl) (by kernel_rfl) (by kernel_rfl) (fun _ _ _ h => h) (Or.inl ⟨by kernel_rfl, ?_⟩) (by assumption) ?_
      · intro W0 hSw; (try dsimp only at hSw); go_simp <;> simp [yy e1]
      try simp only [Act.put, ag, ah, ai]
      refine wpAnyH_take (i := 10) (oi := ({ dst := some 38, op := Op.pick (Operand.tmp 34) (Operand.const (Value.bool true)) (Operand.tmp 37), type := 4, pos := "laws.go:427", after := #[{ on := 6, ground := Ground.data }, { on := 9, ground := Ground.data }], guard := none } : Oper)) (v := ?_) rfl (by kernel_rfl) (by kernel_rfl) (by kernel_rfl) (fun _ _ _ h => h) (Or.inl ⟨by kernel_rfl, ?_⟩) (by assumption) ?_
      rotate_left
      · intro W0 hSw; (try dsimp only at hSw); go_simp <;> with_reducible rfl
      try simp only [Act.put, ag, ah, ai]
      refine wpAnyH_take (i := 11) (oi := ({ dst := some 39, op := Op.move (Operand.tmp 38), type := 4, pos := "laws.go:427", after := #[{ on := 10, ground := Ground.data }, { on := 6, ground := Ground.chain }], guard := none } : Oper)) (v := ?_) rfl (by kernel_rfl) (by kernel_rfl) (by kernel_rfl) (fun _ _ _ h => h) (Or.inl ⟨by kernel_rfl, ?_⟩) (by assumption) ?_
      rotate_left
      · intro W0 hSw; (try dsimp only at hSw); go_simp <;> with_reducible rfl
      try simp only [Act.put, ag, ah, ai]
      refine wpAnyH_take (i := 12) (oi := ({ dst := some 40, op := Op.fieldAddr 27 (Operand.tmp 5) 2, type := 0, pos := "laws.go:427", after := #[{ on := 11, ground := Ground.guard }], guard := some (11, false) } : Oper)) (v := undef) rfl (by kernel_rfl) (by kernel_rfl) (by kernel_rfl) (fun _ _ _ h => h) (Or.inr ⟨by kernel_rfl, rfl⟩) (by assumption) ?_
      try simp only [Act.put, ag, ah, ai]
      refine wpAnyH_take (i := 13) (oi := ({ dst := some 41, op := Op.load 2 (Operand.tmp 40), type := 2, pos := "laws.go:427", after := #[{ on := 12, ground := Ground.data }, { on := 11, ground := Ground.guard }], guard := some (11, false) } : Oper)) (v := undef) rfl (by kernel_rfl) (by kernel_rfl) (by kernel_rfl) (fun _ _ _ h => h) (Or.inr ⟨by kernel_rfl, rfl⟩) (by assumption) ?_
      try simp only [Act.put, ag, ah, ai]
      refine wpAnyH_take (i := 14) (oi := ({ dst := some 42, op := Op.binOp BinOp.eql 2 (Operand.tmp 41) (Operand.const (Value.int IntKind.i64 0)) 2, type := 4, pos := "laws.go:427", after := #[{ on := 13, ground := Ground.data }, { on := 11, ground := Ground.guard }], guard := some (11, false) } : Oper)) (v := undef) rfl (by kernel_rfl) (by kernel_rfl) (by kernel_rfl) (fun _ _ _ h => h) (Or.inr ⟨by kernel_rfl, rfl⟩) (by assumption) ?_
      try simp only [Act.put, ag, ah, ai]
      refine wpAnyH_take (i := 15) (oi := ({ dst := some 43, op := Op.pick (Operand.tmp 39) (Operand.const (Value.bool true)) (Operand.tmp 42), type := 4, pos := "laws.go:427", after := #[{ on := 11, ground := Ground.data }, { on := 14, ground := Ground.data }], guard := none } : Oper)) (v := ?_) rfl (by kernel_rfl) (by kernel_rfl) (by kernel_rfl) (fun _ _ _ h => h) (Or.inl ⟨by kernel_rfl, ?_⟩) (by assumption) ?_
      rotate_left
      · intro W0 hSw; (try dsimp only at hSw); go_simp <;> with_reducible rfl
      try simp only [Act.put, ag, ah, ai]
      refine wpAnyH_take (i := 16) (oi := ({ dst := some 44, op := Op.move (Operand.tmp 43), type := 4, pos := "laws.go:427", after := #[{ on := 15, ground := Ground.data }, { on := 11, ground := Ground.chain }], guard := none } : Oper)) (v := ?_) rfl (by kernel_rfl) (by kernel_rfl) (by kernel_rfl) (fun _ _ _ h => h) (Or.inl ⟨by kernel_rfl, ?_⟩) (by assumption) ?_
      rotate_left
      · intro W0 hSw; (try dsimp only at hSw); go_simp <;> with_reducible rfl
      try simp only [Act.put, ag, ah, ai]
      refine wpAnyH_take (i := 17) (oi := ({ dst := some 45, op := Op.fieldAddr 27 (Operand.tmp 5) 5, type := 0, pos := "laws.go:427", after := #[{ on := 16, ground := Ground.guard }], guard := some (16, false) } : Oper)) (v := undef) rfl (by kernel_rfl) (by kernel_rfl) (by kernel_rfl) (fun _ _ _ h => h) (Or.inr ⟨by kernel_rfl, rfl⟩) (by assumption) ?_
      try simp only [Act.put, ag, ah, ai]
      refine wpAnyH_take (i := 18) (oi := ({ dst := some 46, op := Op.load 2 (Operand.tmp 45), type := 2, pos := "laws.go:427", after := #[{ on := 17, ground := Ground.data }, { on := 16, ground := Ground.guard }], guard := some (16, false) } : Oper)) (v := undef) rfl (by kernel_rfl) (by kernel_rfl) (by kernel_rfl) (fun _ _ _ h => h) (Or.inr ⟨by kernel_rfl, rfl⟩) (by assumption) ?_
      try simp only [Act.put, ag, ah, ai]
      refine wpAnyH_take (i := 19) (oi := ({ dst := some 47, op := Op.binOp BinOp.geq 2 (Operand.tmp 46) (Operand.const (Value.int IntKind.i64 1000000)) 2, type := 4, pos := "laws.go:427", after := #[{ on := 18, ground := Ground.data }, { on := 16, ground := Ground.guard }], guard := some (16, false) } : Oper)) (v := undef) rfl (by kernel_rfl) (by kernel_rfl) (by kernel_rfl) (fun _ _ _ h => h) (Or.inr ⟨by kernel_rfl, rfl⟩) (by assumption) ?_
      try simp only [Act.put, ag, ah, ai]
      refine wpAnyH_take (i := 20) (oi := ({ dst := some 48, op := Op.pick (Operand.tmp 44) (Operand.const (Value.bool true)) (Operand.tmp 47), type := 4, pos := "laws.go:427", after := #[{ on := 16, ground := Ground.data }, { on := 19, ground := Ground.data }], guard := none } : Oper)) (v := ?_) rfl (by kernel_rfl) (by kernel_rfl) (by kernel_rfl) (fun _ _ _ h => h) (Or.inl ⟨by kernel_rfl, ?_⟩) (by assumption) ?_
      rotate_left
      · intro W0 hSw; (try dsimp only at hSw); go_simp <;> with_reducible rfl
      try simp only [Act.put, ag, ah, ai]
      refine wpAnyH_done (by kernel_rfl) ?_ _
      go_wp2_with fail
      go_meet
      exact ⟨_, rfl, by rw [show decide (code ≠ 0 ∨ t.mode = 0 ∨ 1000000 ≤ t.fr) = true by exact decide_eq_true (Or.inl (yy e1))], HV⟩
    · replace e1 := yz e1
      replace e2 := yz e2
      have HV : Hid (Below W4.heap.size W4 W4.drew) := yz (Below.refl W4.heap.size W4).drew
      refine wp_region_held_drew (S := (fun w' => w'.cell? ⟨xb, 0, none⟩ = some (.slice a1 u.L.length cap1) ∧ w'.cell? ⟨xb, 1, none⟩ = some (.int .i64 u.lim) ∧ w'.cell? ⟨xb, 2, none⟩ = some (.int .i64 u.mode) ∧ w'.cell? ⟨xb, 3, none⟩ = some (.int .i64 u.A) ∧ w'.cell? ⟨xb, 4, none⟩ = some (.int .i64 u.B) ∧ w'.cell? ⟨xb, 5, none⟩ = some (.int .i64 u.C) ∧ w'.cell? ⟨xb, 6, none⟩ = some (.int .i64 u.D) ∧ w'.cell? ⟨xb, 7, none⟩ = some (.int .i64 u.coast) ∧ w'.cell? ⟨xb, 8, none⟩ = some (.int .i64 u.fr) ∧ w'.cell? ⟨xb, 9, none⟩ = some (.int .i64 code) ∧ w'.cell? ⟨W1.heap.size, 0, none⟩ = some (.slice a t.L.length cap) ∧ w'.cell? ⟨W1.heap.size, 1, none⟩ = some (.int .i64 t.lim) ∧ w'.cell? ⟨W1.heap.size, 2, none⟩ = some (.int .i64 t.mode) ∧ w'.cell? ⟨W1.heap.size, 3, none⟩ = some (.int .i64 t.A) ∧ w'.cell? ⟨W1.heap.size, 4, none⟩ = some (.int .i64 t.B) ∧ w'.cell? ⟨W1.heap.size, 5, none⟩ = some (.int .i64 t.C) ∧ w'.cell? ⟨W1.heap.size, 6, none⟩ = some (.int .i64 t.D) ∧ w'.cell? ⟨W1.heap.size, 7, none⟩ = some (.int .i64 t.coast) ∧ w'.cell? ⟨W1.heap.size, 8, none⟩ = some (.int .i64 t.fr) ∧ w'.cell? ⟨W1.heap.size + 1, 0, none⟩ = some (.int .i64 g1) ∧ w'.cell? ⟨W1.heap.size + 1, 1, none⟩ = some (.int .i64 g2) ∧ w'.cell? ⟨W1.heap.size + 1, 2, none⟩ = some (.int .i64 g3) ∧ w'.cell? ⟨W1.heap.size + 1, 3, none⟩ = some (.int .i64 g4))) (by kernel_rfl) (yy HKS W4 (Below.refl _ _)) (fun hHeld => ?_)
      refine wpAnyH_take (i := 0) (oi := ({ dst := some 28, op := Op.load 32 (Operand.tmp 7), type := 32, pos := "laws.go:427", after := #[], guard := none } : Oper)) (v := ?_) rfl (by kernel_rfl) (by kernel_rfl) (by kernel_rfl) (fun _ _ _ h => h) (Or.inl ⟨by kernel_rfl, ?_⟩) (by assumption) ?_
      rotate_left
      · intro W0 hSw; (try dsimp only at hSw); go_simp <;> with_reducible rfl
      try simp only [Act.put, ag, ah, ai]
      refine wpAnyH_take (i := 1) (oi := ({ dst := some 29, op := Op.load 27 (Operand.tmp 5), type := 27, pos := "laws.go:427", after := #[], guard := none } : Oper)) (v := ?_) rfl (by kernel_rfl) (by kernel_rfl) (by kernel_rfl) (fun _ _ _ h => h) (Or.inl ⟨by kernel_rfl, ?_⟩) (by assumption) ?_
      rotate_left
      · intro W0 hSw; (try dsimp only at hSw); go_simp <;> with_reducible rfl
      try simp only [Act.put, ag, ah, ai]
      refine wpAnyH_take (i := 2) (oi := ({ dst := some 30, op := Op.load 25 (Operand.tmp 6), type := 25, pos := "laws.go:427", after := #[], guard := none } : Oper)) (v := ?_) rfl (by kernel_rfl) (by kernel_rfl) (by kernel_rfl) (fun _ _ _ h => h) (Or.inl ⟨by kernel_rfl, ?_⟩) (by assumption) ?_
      rotate_left
      · intro W0 hSw; (try dsimp only at hSw); go_simp <;> with_reducible rfl
      try simp only [Act.put, ag, ah, ai]
      refine wpAnyH_ready (rs := [3]) (by kernel_rfl) (by simp) ?_
      refine (AllReadyH.cons rfl (fun K hK => ?_) AllReadyH.nil)
      go_simp
      refine (yy cS W4.drew ((yy HC).kept (yy HV)).stars).mono ?_
      rintro e V1 ⟨⟨a2, cap2, rfl, hC2⟩, hx⟩
      replace HV := yz (aj (yy HV) hx)
      have HX2 := yz hC2
      clear hx hC2
      refine hK.out _ _ ?_ (fun hHeld1 => ?_)
      · exact yy HKS _ (yy HV)
      clear hK K
      refine wpAnyH_ready (rs := [4]) (by kernel_rfl) (by simp) ?_
      refine (AllReadyH.cons rfl (fun K hK => ?_) AllReadyH.nil)
      go_simp
      refine (yy cO V1 a2 cap2 ((yy HX).kept (yy HV)).stars (yy HX2).stars).mono ?_
      rintro e V2 ⟨rfl, hx⟩
      replace HV := yz (aj (yy HV) hx)
      clear hx HX2
      refine hK.out _ _ ?_ (fun hHeld2 => ?_)
      · exact yy HKS _ (yy HV)
      clear hK K
      refine wpAnyH_take (i := 5) (oi := ({ dst := some 33, op := Op.unOp UnOp.not 4 (Operand.tmp 32), type := 4, pos := "laws.go:427", after := #[{ on := 4, ground := Ground.data }], guard := none } : Oper)) (v := ?_) rfl (by kernel_rfl) (by kernel_rfl) (by kernel_rfl) (fun _ _ _ h => h) (Or.inl ⟨by kernel_rfl, ?_⟩) (by assumption) ?_
      rotate_left
      · intro W0 hSw; (try dsimp only at hSw); go_simp <;> with_reducible rfl
      try simp only [Act.put, ag, ah, ai]
      refine wpAnyH_take (i := 6) (oi := ({ dst := some 34, op := Op.move (Operand.tmp 33), type := 4, pos := "laws.go:427", after := #[{ on := 5, ground := Ground.data }, { on := 4, ground := Ground.chain }], guard := none } : Oper)) (v := ?_) rfl (by kernel_rfl) (by kernel_rfl) (by kernel_rfl) (fun _ _ _ h => h) (Or.inl ⟨by kernel_rfl, ?_⟩) (by assumption) ?_
      rotate_left
      · intro W0 hSw; (try dsimp only at hSw); go_simp <;> with_reducible rfl
      try simp only [Act.put, ag, ah, ai]
      refine wpAnyH_take (i := 7) (oi := ({ dst := some 35, op := Op.fieldAddr 32 (Operand.tmp 7) 1, type := 0, pos := "laws.go:427", after := #[{ on := 6, ground := Ground.guard }], guard := some (6, false) } : Oper)) (v := ?_) rfl (by kernel_rfl) (by kernel_rfl) (by kernel_rfl) (fun _ _ _ h => h) (Or.inl ⟨by kernel_rfl, ?_⟩) (by assumption) ?_
      rotate_left
      · intro W0 hSw; (try dsimp only at hSw); go_simp <;> with_reducible rfl
      try simp only [Act.put, ag, ah, ai]
      refine wpAnyH_take (i := 8) (oi := ({ dst := some 36, op := Op.load 2 (Operand.tmp 35), type := 2, pos := "laws.go:427", after := #[{ on := 7, ground := Ground.data }, { on := 6, ground := Ground.guard }], guard := some (6, false) } : Oper)) (v := ?_) rfl (by kernel_rfl) (by kernel_rfl) (by kernel_rfl) (fun _ _ _ h => h) (Or.inl ⟨by kernel_rfl, ?_⟩) (by assumption) ?_
      rotate_left
      · intro W0 hSw; (try dsimp only at hSw); go_simp <;> with_reducible rfl
      try simp only [Act.put, ag, ah, ai]
      refine wpAnyH_take (i := 9) (oi := ({ dst := some 37, op := Op.binOp BinOp.neq 2 (Operand.tmp 36) (Operand.const (Value.int IntKind.i64 0)) 2, type := 4, pos := "laws.go:427", after := #[{ on := 8, ground := Ground.data }, { on := 6, ground := Ground.guard }], guard := some (6, false) } : Oper)) (v := (.bool false)) rfl (by kernel_rfl) (by kernel_rfl) (by kernel_rfl) (fun _ _ _ h => h) (Or.inl ⟨by kernel_rfl, ?_⟩) (by assumption) ?_
      · intro W0 hSw; (try dsimp only at hSw); go_simp <;> simp [yy e1]
      try simp only [Act.put, ag, ah, ai]
      refine wpAnyH_take (i := 10) (oi := ({ dst := some 38, op := Op.pick (Operand.tmp 34) (Operand.const (Value.bool true)) (Operand.tmp 37), type := 4, pos := "laws.go:427", after := #[{ on := 6, ground := Ground.data }, { on := 9, ground := Ground.data }], guard := none } : Oper)) (v := ?_) rfl (by kernel_rfl) (by kernel_rfl) (by kernel_rfl) (fun _ _ _ h => h) (Or.inl ⟨by kernel_rfl, ?_⟩) (by assumption) ?_
      rotate_left
      · intro W0 hSw; (try dsimp only at hSw); go_simp <;> with_reducible rfl
      try simp only [Act.put, ag, ah, ai]
      refine wpAnyH_take (i := 11) (oi := ({ dst := some 39, op := Op.move (Operand.tmp 38), type := 4, pos := "laws.go:427", after := #[{ on := 10, ground := Ground.data }, { on := 6, ground := Ground.chain }], guard := none } : Oper)) (v := ?_) rfl (by kernel_rfl) (by kernel_rfl) (by kernel_rfl) (fun _ _ _ h => h) (Or.inl ⟨by kernel_rfl, ?_⟩) (by assumption) ?_
      rotate_left
      · intro W0 hSw; (try dsimp only at hSw); go_simp <;> with_reducible rfl
      try simp only [Act.put, ag, ah, ai]
      refine wpAnyH_take (i := 12) (oi := ({ dst := some 40, op := Op.fieldAddr 27 (Operand.tmp 5) 2, type := 0, pos := "laws.go:427", after := #[{ on := 11, ground := Ground.guard }], guard := some (11, false) } : Oper)) (v := ?_) rfl (by kernel_rfl) (by kernel_rfl) (by kernel_rfl) (fun _ _ _ h => h) (Or.inl ⟨by kernel_rfl, ?_⟩) (by assumption) ?_
      rotate_left
      · intro W0 hSw; (try dsimp only at hSw); go_simp <;> with_reducible rfl
      try simp only [Act.put, ag, ah, ai]
      refine wpAnyH_take (i := 13) (oi := ({ dst := some 41, op := Op.load 2 (Operand.tmp 40), type := 2, pos := "laws.go:427", after := #[{ on := 12, ground := Ground.data }, { on := 11, ground := Ground.guard }], guard := some (11, false) } : Oper)) (v := ?_) rfl (by kernel_rfl) (by kernel_rfl) (by kernel_rfl) (fun _ _ _ h => h) (Or.inl ⟨by kernel_rfl, ?_⟩) (by assumption) ?_
      rotate_left
      · intro W0 hSw; (try dsimp only at hSw); go_simp <;> with_reducible rfl
      try simp only [Act.put, ag, ah, ai]
      refine wpAnyH_take (i := 14) (oi := ({ dst := some 42, op := Op.binOp BinOp.eql 2 (Operand.tmp 41) (Operand.const (Value.int IntKind.i64 0)) 2, type := 4, pos := "laws.go:427", after := #[{ on := 13, ground := Ground.data }, { on := 11, ground := Ground.guard }], guard := some (11, false) } : Oper)) (v := (.bool true)) rfl (by kernel_rfl) (by kernel_rfl) (by kernel_rfl) (fun _ _ _ h => h) (Or.inl ⟨by kernel_rfl, ?_⟩) (by assumption) ?_
      · intro W0 hSw; (try dsimp only at hSw); go_simp <;> simp [yy e2]
      try simp only [Act.put, ag, ah, ai]
      refine wpAnyH_take (i := 15) (oi := ({ dst := some 43, op := Op.pick (Operand.tmp 39) (Operand.const (Value.bool true)) (Operand.tmp 42), type := 4, pos := "laws.go:427", after := #[{ on := 11, ground := Ground.data }, { on := 14, ground := Ground.data }], guard := none } : Oper)) (v := ?_) rfl (by kernel_rfl) (by kernel_rfl) (by kernel_rfl) (fun _ _ _ h => h) (Or.inl ⟨by kernel_rfl, ?_⟩) (by assumption) ?_
      rotate_left
      · intro W0 hSw; (try dsimp only at hSw); go_simp <;> with_reducible rfl
      try simp only [Act.put, ag, ah, ai]
      refine wpAnyH_take (i := 16) (oi := ({ dst := some 44, op := Op.move (Operand.tmp 43), type := 4, pos := "laws.go:427", after := #[{ on := 15, ground := Ground.data }, { on := 11, ground := Ground.chain }], guard := none } : Oper)) (v := ?_) rfl (by kernel_rfl) (by kernel_rfl) (by kernel_rfl) (fun _ _ _ h => h) (Or.inl ⟨by kernel_rfl, ?_⟩) (by assumption) ?_
      rotate_left
      · intro W0 hSw; (try dsimp only at hSw); go_simp <;> with_reducible rfl
      try simp only [Act.put, ag, ah, ai]
      refine wpAnyH_take (i := 17) (oi := ({ dst := some 45, op := Op.fieldAddr 27 (Operand.tmp 5) 5, type := 0, pos := "laws.go:427", after := #[{ on := 16, ground := Ground.guard }], guard := some (16, false) } : Oper)) (v := undef) rfl (by kernel_rfl) (by kernel_rfl) (by kernel_rfl) (fun _ _ _ h => h) (Or.inr ⟨by kernel_rfl, rfl⟩) (by assumption) ?_
      try simp only [Act.put, ag, ah, ai]
      refine wpAnyH_take (i := 18) (oi := ({ dst := some 46, op := Op.load 2 (Operand.tmp 45), type := 2, pos := "laws.go:427", after := #[{ on := 17, ground := Ground.data }, { on := 16, ground := Ground.guard }], guard := some (16, false) } : Oper)) (v := undef) rfl (by kernel_rfl) (by kernel_rfl) (by kernel_rfl) (fun _ _ _ h => h) (Or.inr ⟨by kernel_rfl, rfl⟩) (by assumption) ?_
      try simp only [Act.put, ag, ah, ai]
      refine wpAnyH_take (i := 19) (oi := ({ dst := some 47, op := Op.binOp BinOp.geq 2 (Operand.tmp 46) (Operand.const (Value.int IntKind.i64 1000000)) 2, type := 4, pos := "laws.go:427", after := #[{ on := 18, ground := Ground.data }, { on := 16, ground := Ground.guard }], guard := some (16, false) } : Oper)) (v := undef) rfl (by kernel_rfl) (by kernel_rfl) (by kernel_rfl) (fun _ _ _ h => h) (Or.inr ⟨by kernel_rfl, rfl⟩) (by assumption) ?_
      try simp only [Act.put, ag, ah, ai]
      refine wpAnyH_take (i := 20) (oi := ({ dst := some 48, op := Op.pick (Operand.tmp 44) (Operand.const (Value.bool true)) (Operand.tmp 47), type := 4, pos := "laws.go:427", after := #[{ on := 16, ground := Ground.data }, { on := 19, ground := Ground.data }], guard := none } : Oper)) (v := ?_) rfl (by kernel_rfl) (by kernel_rfl) (by kernel_rfl) (fun _ _ _ h => h) (Or.inl ⟨by kernel_rfl, ?_⟩) (by assumption) ?_
      rotate_left
      · intro W0 hSw; (try dsimp only at hSw); go_simp <;> with_reducible rfl
      try simp only [Act.put, ag, ah, ai]
      refine wpAnyH_done (by kernel_rfl) ?_ _
      go_wp2_with fail
      go_meet
      exact ⟨_, rfl, by rw [show decide (code ≠ 0 ∨ t.mode = 0 ∨ 1000000 ≤ t.fr) = true by exact decide_eq_true (Or.inr (Or.inl (yy e2)))], HV⟩
    · replace e1 := yz e1
      replace e2 := yz e2
      replace e3 := yz e3
      have HV : Hid (Below W4.heap.size W4 W4.drew) := yz (Below.refl W4.heap.size W4).drew
      refine wp_region_held_drew (S := (fun w' => w'.cell? ⟨xb, 0, none⟩ = some (.slice a1 u.L.length cap1) ∧ w'.cell? ⟨xb, 1, none⟩ = some (.int .i64 u.lim) ∧ w'.cell? ⟨xb, 2, none⟩ = some (.int .i64 u.mode) ∧ w'.cell? ⟨xb, 3, none⟩ = some (.int .i64 u.A) ∧ w'.cell? ⟨xb, 4, none⟩ = some (.int .i64 u.B) ∧ w'.cell? ⟨xb, 5, none⟩ = some (.int .i64 u.C) ∧ w'.cell? ⟨xb, 6, none⟩ = some (.int .i64 u.D) ∧ w'.cell? ⟨xb, 7, none⟩ = some (.int .i64 u.coast) ∧ w'.cell? ⟨xb, 8, none⟩ = some (.int .i64 u.fr) ∧ w'.cell? ⟨xb, 9, none⟩ = some (.int .i64 code) ∧ w'.cell? ⟨W1.heap.size, 0, none⟩ = some (.slice a t.L.length cap) ∧ w'.cell? ⟨W1.heap.size, 1, none⟩ = some (.int .i64 t.lim) ∧ w'.cell? ⟨W1.heap.size, 2, none⟩ = some (.int .i64 t.mode) ∧ w'.cell? ⟨W1.heap.size, 3, none⟩ = some (.int .i64 t.A) ∧ w'.cell? ⟨W1.heap.size, 4, none⟩ = some (.int .i64 t.B) ∧ w'.cell? ⟨W1.heap.size, 5, none⟩ = some (.int .i64 t.C) ∧ w'.cell? ⟨W1.heap.size, 6, none⟩ = some (.int .i64 t.D) ∧ w'.cell? ⟨W1.heap.size, 7, none⟩ = some (.int .i64 t.coast) ∧ w'.cell? ⟨W1.heap.size, 8, none⟩ = some (.int .i64 t.fr) ∧ w'.cell? ⟨W1.heap.size + 1, 0, none⟩ = some (.int .i64 g1) ∧ w'.cell? ⟨W1.heap.size + 1, 1, none⟩ = some (.int .i64 g2) ∧ w'.cell? ⟨W1.heap.size + 1, 2, none⟩ = some (.int .i64 g3) ∧ w'.cell? ⟨W1.heap.size + 1, 3, none⟩ = some (.int .i64 g4))) (by kernel_rfl) (yy HKS W4 (Below.refl _ _)) (fun hHeld => ?_)
      refine wpAnyH_take (i := 0) (oi := ({ dst := some 28, op := Op.load 32 (Operand.tmp 7), type := 32, pos := "laws.go:427", after := #[], guard := none } : Oper)) (v := ?_) rfl (by kernel_rfl) (by kernel_rfl) (by kernel_rfl) (fun _ _ _ h => h) (Or.inl ⟨by kernel_rfl, ?_⟩) (by assumption) ?_
      rotate_left
      · intro W0 hSw; (try dsimp only at hSw); go_simp <;> with_reducible rfl
      try simp only [Act.put, ag, ah, ai]
      refine wpAnyH_take (i := 1) (oi := ({ dst := some 29, op := Op.load 27 (Operand.tmp 5), type := 27, pos := "laws.go:427", after := #[], guard := none } : Oper)) (v := ?_) rfl (by kernel_rfl) (by kernel_rfl) (by kernel_rfl) (fun _ _ _ h => h) (Or.inl ⟨by kernel_rfl, ?_⟩) (by assumption) ?_
      rotate_left
      · intro W0 hSw; (try dsimp only at hSw); go_simp <;> with_reducible rfl
      try simp only [Act.put, ag, ah, ai]
      refine wpAnyH_take (i := 2) (oi := ({ dst := some 30, op := Op.load 25 (Operand.tmp 6), type := 25, pos := "laws.go:427", after := #[], guard := none } : Oper)) (v := ?_) rfl (by kernel_rfl) (by kernel_rfl) (by kernel_rfl) (fun _ _ _ h => h) (Or.inl ⟨by kernel_rfl, ?_⟩) (by assumption) ?_
      rotate_left
      · intro W0 hSw; (try dsimp only at hSw); go_simp <;> with_reducible rfl
      try simp only [Act.put, ag, ah, ai]
      refine wpAnyH_ready (rs := [3]) (by kernel_rfl) (by simp) ?_
      refine (AllReadyH.cons rfl (fun K hK => ?_) AllReadyH.nil)
      go_simp
      refine (yy cS W4.drew ((yy HC).kept (yy HV)).stars).mono ?_
      rintro e V1 ⟨⟨a2, cap2, rfl, hC2⟩, hx⟩
      replace HV := yz (aj (yy HV) hx)
      have HX2 := yz hC2
      clear hx hC2
      refine hK.out _ _ ?_ (fun hHeld1 => ?_)
      · exact yy HKS _ (yy HV)
      clear hK K
      refine wpAnyH_ready (rs := [4]) (by kernel_rfl) (by simp) ?_
      refine (AllReadyH.cons rfl (fun K hK => ?_) AllReadyH.nil)
      go_simp
      refine (yy cO V1 a2 cap2 ((yy HX).kept (yy HV)).stars (yy HX2).stars).mono ?_
      rintro e V2 ⟨rfl, hx⟩
      replace HV := yz (aj (yy HV) hx)
      clear hx HX2
      refine hK.out _ _ ?_ (fun hHeld2 => ?_)
      · exact yy HKS _ (yy HV)
      clear hK K
      refine wpAnyH_take (i := 5) (oi := ({ dst := some 33, op := Op.unOp UnOp.not 4 (Operand.tmp 32), type := 4, pos := "laws.go:427", after := #[{ on := 4, ground := Ground.data }], guard := none } : Oper)) (v := ?_) rfl (by kernel_rfl) (by kernel_rfl) (by kernel_rfl) (fun _ _ _ h => h) (Or.inl ⟨by kernel_rfl, ?_⟩) (by assumption) ?_
      rotate_left
      · intro W0 hSw; (try dsimp only at hSw); go_simp <;> with_reducible rfl
      try simp only [Act.put, ag, ah, ai]
      refine wpAnyH_take (i := 6) (oi := ({ dst := some 34, op := Op.move (Operand.tmp 33), type := 4, pos := "laws.go:427", after := #[{ on := 5, ground := Ground.data }, { on := 4, ground := Ground.chain }], guard := none } : Oper)) (v := ?_) rfl (by kernel_rfl) (by kernel_rfl) (by kernel_rfl) (fun _ _ _ h => h) (Or.inl ⟨by kernel_rfl, ?_⟩) (by assumption) ?_
      rotate_left
      · intro W0 hSw; (try dsimp only at hSw); go_simp <;> with_reducible rfl
      try simp only [Act.put, ag, ah, ai]
      refine wpAnyH_take (i := 7) (oi := ({ dst := some 35, op := Op.fieldAddr 32 (Operand.tmp 7) 1, type := 0, pos := "laws.go:427", after := #[{ on := 6, ground := Ground.guard }], guard := some (6, false) } : Oper)) (v := ?_) rfl (by kernel_rfl) (by kernel_rfl) (by kernel_rfl) (fun _ _ _ h => h) (Or.inl ⟨by kernel_rfl, ?_⟩) (by assumption) ?_
      rotate_left
      · intro W0 hSw; (try dsimp only at hSw); go_simp <;> with_reducible rfl
      try simp only [Act.put, ag, ah, ai]
      refine wpAnyH_take (i := 8) (oi := ({ dst := some 36, op := Op.load 2 (Operand.tmp 35), type := 2, pos := "laws.go:427", after := #[{ on := 7, ground := Ground.data }, { on := 6, ground := Ground.guard }], guard := some (6, false) } : Oper)) (v := ?_) rfl (by kernel_rfl) (by kernel_rfl) (by kernel_rfl) (fun _ _ _ h => h) (Or.inl ⟨by kernel_rfl, ?_⟩) (by assumption) ?_
      rotate_left
      · intro W0 hSw; (try dsimp only at hSw); go_simp <;> with_reducible rfl
      try simp only [Act.put, ag, ah, ai]
      refine wpAnyH_take (i := 9) (oi := ({ dst := some 37, op := Op.binOp BinOp.neq 2 (Operand.tmp 36) (Operand.const (Value.int IntKind.i64 0)) 2, type := 4, pos := "laws.go:427", after := #[{ on := 8, ground := Ground.data }, { on := 6, ground := Ground.guard }], guard := some (6, false) } : Oper)) (v := (.bool false)) rfl (by kernel_rfl) (by kernel_rfl) (by kernel_rfl) (fun _ _ _ h => h) (Or.inl ⟨by kernel_rfl, ?_⟩) (by assumption) ?_
      · intro W0 hSw; (try dsimp only at hSw); go_simp <;> simp [yy e1]
      try simp only [Act.put, ag, ah, ai]
      refine wpAnyH_take (i := 10) (oi := ({ dst := some 38, op := Op.pick (Operand.tmp 34) (Operand.const (Value.bool true)) (Operand.tmp 37), type := 4, pos := "laws.go:427", after := #[{ on := 6, ground := Ground.data }, { on := 9, ground := Ground.data }], guard := none } : Oper)) (v := ?_) rfl (by kernel_rfl) (by kernel_rfl) (by kernel_rfl) (fun _ _ _ h => h) (Or.inl ⟨by kernel_rfl, ?_⟩) (by assumption) ?_
      rotate_left
      · intro W0 hSw; (try dsimp only at hSw); go_simp <;> with_reducible rfl
      try simp only [Act.put, ag, ah, ai]
      refine wpAnyH_take (i := 11) (oi := ({ dst := some 39, op := Op.move (Operand.tmp 38), type := 4, pos := "laws.go:427", after := #[{ on := 10, ground := Ground.data }, { on := 6, ground := Ground.chain }], guard := none } : Oper)) (v := ?_) rfl (by kernel_rfl) (by kernel_rfl) (by kernel_rfl) (fun _ _ _ h => h) (Or.inl ⟨by kernel_rfl, ?_⟩) (by assumption) ?_
      rotate_left
      · intro W0 hSw; (try dsimp only at hSw); go_simp <;> with_reducible rfl
      try simp only [Act.put, ag, ah, ai]
      refine wpAnyH_take (i := 12) (oi := ({ dst := some 40, op := Op.fieldAddr 27 (Operand.tmp 5) 2, type := 0, pos := "laws.go:427", after := #[{ on := 11, ground := Ground.guard }], guard := some (11, false) } : Oper)) (v := ?_) rfl (by kernel_rfl) (by kernel_rfl) (by kernel_rfl) (fun _ _ _ h => h) (Or.inl ⟨by kernel_rfl, ?_⟩) (by assumption) ?_
      rotate_left
      · intro W0 hSw; (try dsimp only at hSw); go_simp <;> with_reducible rfl
      try simp only [Act.put, ag, ah, ai]
      refine wpAnyH_take (i := 13) (oi := ({ dst := some 41, op := Op.load 2 (Operand.tmp 40), type := 2, pos := "laws.go:427", after := #[{ on := 12, ground := Ground.data }, { on := 11, ground := Ground.guard }], guard := some (11, false) } : Oper)) (v := ?_) rfl (by kernel_rfl) (by kernel_rfl) (by kernel_rfl) (fun _ _ _ h => h) (Or.inl ⟨by kernel_rfl, ?_⟩) (by assumption) ?_
      rotate_left
      · intro W0 hSw; (try dsimp only at hSw); go_simp <;> with_reducible rfl
      try simp only [Act.put, ag, ah, ai]
      refine wpAnyH_take (i := 14) (oi := ({ dst := some 42, op := Op.binOp BinOp.eql 2 (Operand.tmp 41) (Operand.const (Value.int IntKind.i64 0)) 2, type := 4, pos := "laws.go:427", after := #[{ on := 13, ground := Ground.data }, { on := 11, ground := Ground.guard }], guard := some (11, false) } : Oper)) (v := (.bool false)) rfl (by kernel_rfl) (by kernel_rfl) (by kernel_rfl) (fun _ _ _ h => h) (Or.inl ⟨by kernel_rfl, ?_⟩) (by assumption) ?_
      · intro W0 hSw; (try dsimp only at hSw); go_simp <;> simp [yy e2]
      try simp only [Act.put, ag, ah, ai]
      refine wpAnyH_take (i := 15) (oi := ({ dst := some 43, op := Op.pick (Operand.tmp 39) (Operand.const (Value.bool true)) (Operand.tmp 42), type := 4, pos := "laws.go:427", after := #[{ on := 11, ground := Ground.data }, { on := 14, ground := Ground.data }], guard := none } : Oper)) (v := ?_) rfl (by kernel_rfl) (by kernel_rfl) (by kernel_rfl) (fun _ _ _ h => h) (Or.inl ⟨by kernel_rfl, ?_⟩) (by assumption) ?_
      rotate_left
      · intro W0 hSw; (try dsimp only at hSw); go_simp <;> with_reducible rfl
      try simp only [Act.put, ag, ah, ai]
      refine wpAnyH_take (i := 16) (oi := ({ dst := some 44, op := Op.move (Operand.tmp 43), type := 4, pos := "laws.go:427", after := #[{ on := 15, ground := Ground.data }, { on := 11, ground := Ground.chain }], guard := none } : Oper)) (v := ?_) rfl (by kernel_rfl) (by kernel_rfl) (by kernel_rfl) (fun _ _ _ h => h) (Or.inl ⟨by kernel_rfl, ?_⟩) (by assumption) ?_
      rotate_left
      · intro W0 hSw; (try dsimp only at hSw); go_simp <;> with_reducible rfl
      try simp only [Act.put, ag, ah, ai]
      refine wpAnyH_take (i := 17) (oi := ({ dst := some 45, op := Op.fieldAddr 27 (Operand.tmp 5) 5, type := 0, pos := "laws.go:427", after := #[{ on := 16, ground := Ground.guard }], guard := some (16, false) } : Oper)) (v := ?_) rfl (by kernel_rfl) (by kernel_rfl) (by kernel_rfl) (fun _ _ _ h => h) (Or.inl ⟨by kernel_rfl, ?_⟩) (by assumption) ?_
      rotate_left
      · intro W0 hSw; (try dsimp only at hSw); go_simp <;> with_reducible rfl
      try simp only [Act.put, ag, ah, ai]
      refine wpAnyH_take (i := 18) (oi := ({ dst := some 46, op := Op.load 2 (Operand.tmp 45), type := 2, pos := "laws.go:427", after := #[{ on := 17, ground := Ground.data }, { on := 16, ground := Ground.guard }], guard := some (16, false) } : Oper)) (v := ?_) rfl (by kernel_rfl) (by kernel_rfl) (by kernel_rfl) (fun _ _ _ h => h) (Or.inl ⟨by kernel_rfl, ?_⟩) (by assumption) ?_
      rotate_left
      · intro W0 hSw; (try dsimp only at hSw); go_simp <;> with_reducible rfl
      try simp only [Act.put, ag, ah, ai]
      refine wpAnyH_take (i := 19) (oi := ({ dst := some 47, op := Op.binOp BinOp.geq 2 (Operand.tmp 46) (Operand.const (Value.int IntKind.i64 1000000)) 2, type := 4, pos := "laws.go:427", after := #[{ on := 18, ground := Ground.data }, { on := 16, ground := Ground.guard }], guard := some (16, false) } : Oper)) (v := (.bool true)) rfl (by kernel_rfl) (by kernel_rfl) (by kernel_rfl) (fun _ _ _ h => h) (Or.inl ⟨by kernel_rfl, ?_⟩) (by assumption) ?_
      · intro W0 hSw; (try dsimp only at hSw); go_simp <;> first | simp [yy e3] | exact Int.not_le.1 (yy e3)
      try simp only [Act.put, ag, ah, ai]
      refine wpAnyH_take (i := 20) (oi := ({ dst := some 48, op := Op.pick (Operand.tmp 44) (Operand.const (Value.bool true)) (Operand.tmp 47), type := 4, pos := "laws.go:427", after := #[{ on := 16, ground := Ground.data }, { on := 19, ground := Ground.data }], guard := none } : Oper)) (v := ?_) rfl (by kernel_rfl) (by kernel_rfl) (by kernel_rfl) (fun _ _ _ h => h) (Or.inl ⟨by kernel_rfl, ?_⟩) (by assumption) ?_
      rotate_left
      · intro W0 hSw; (try dsimp only at hSw); go_simp <;> with_reducible rfl
      try simp only [Act.put, ag, ah, ai]
      refine wpAnyH_done (by kernel_rfl) ?_ _
      go_wp2_with fail
      go_meet
      exact ⟨_, rfl, by rw [show decide (code ≠ 0 ∨ t.mode = 0 ∨ 1000000 ≤ t.fr) = true by exact decide_eq_true (Or.inr (Or.inr (yy e3)))], HV⟩
    · replace e1 := yz e1
      replace e2 := yz e2
      replace e3 := yz e3
      have HV : Hid (Below W4.heap.size W4 W4.drew) := yz (Below.refl W4.heap.size W4).drew
      refine wp_region_held_drew (S := (fun w' => w'.cell? ⟨xb, 0, none⟩ = some (.slice a1 u.L.length cap1) ∧ w'.cell? ⟨xb, 1, none⟩ = some (.int .i64 u.lim) ∧ w'.cell? ⟨xb, 2, none⟩ = some (.int .i64 u.mode) ∧ w'.cell? ⟨xb, 3, none⟩ = some (.int .i64 u.A) ∧ w'.cell? ⟨xb, 4, none⟩ = some (.int .i64 u.B) ∧ w'.cell? ⟨xb, 5, none⟩ = some (.int .i64 u.C) ∧ w'.cell? ⟨xb, 6, none⟩ = some (.int .i64 u.D) ∧ w'.cell? ⟨xb, 7, none⟩ = some (.int .i64 u.coast) ∧ w'.cell? ⟨xb, 8, none⟩ = some (.int .i64 u.fr) ∧ w'.cell? ⟨xb, 9, none⟩ = some (.int .i64 code) ∧ w'.cell? ⟨W1.heap.size, 0, none⟩ = some (.slice a t.L.length cap) ∧ w'.cell? ⟨W1.heap.size, 1, none⟩ = some (.int .i64 t.lim) ∧ w'.cell? ⟨W1.heap.size, 2, none⟩ = some (.int .i64 t.mode) ∧ w'.cell? ⟨W1.heap.size, 3, none⟩ = some (.int .i64 t.A) ∧ w'.cell? ⟨W1.heap.size, 4, none⟩ = some (.int .i64 t.B) ∧ w'.cell? ⟨W1.heap.size, 5, none⟩ = some (.int .i64 t.C) ∧ w'.cell? ⟨W1.heap.size, 6, none⟩ = some (.int .i64 t.D) ∧ w'.cell? ⟨W1.heap.size, 7, none⟩ = some (.int .i64 t.coast) ∧ w'.cell? ⟨W1.heap.size, 8, none⟩ = some (.int .i64 t.fr) ∧ w'.cell? ⟨W1.heap.size + 1, 0, none⟩ = some (.int .i64 g1) ∧ w'.cell? ⟨W1.heap.size + 1, 1, none⟩ = some (.int .i64 g2) ∧ w'.cell? ⟨W1.heap.size + 1, 2, none⟩ = some (.int .i64 g3) ∧ w'.cell? ⟨W1.heap.size + 1, 3, none⟩ = some (.int .i64 g4))) (by kernel_rfl) (yy HKS W4 (Below.refl _ _)) (fun hHeld => ?_)
      refine wpAnyH_take (i := 0) (oi := ({ dst := some 28, op := Op.load 32 (Operand.tmp 7), type := 32, pos := "laws.go:427", after := #[], guard := none } : Oper)) (v := ?_) rfl (by kernel_rfl) (by kernel_rfl) (by kernel_rfl) (fun _ _ _ h => h) (Or.inl ⟨by kernel_rfl, ?_⟩) (by assumption) ?_
      rotate_left
      · intro W0 hSw; (try dsimp only at hSw); go_simp <;> with_reducible rfl
      try simp only [Act.put, ag, ah, ai]
      refine wpAnyH_take (i := 1) (oi := ({ dst := some 29, op := Op.load 27 (Operand.tmp 5), type := 27, pos := "laws.go:427", after := #[], guard := none } : Oper)) (v := ?_) rfl (by kernel_rfl) (by kernel_rfl) (by kernel_rfl) (fun _ _ _ h => h) (Or.inl ⟨by kernel_rfl, ?_⟩) (by assumption) ?_
      rotate_left
      · intro W0 hSw; (try dsimp only at hSw); go_simp <;> with_reducible rfl
      try simp only [Act.put, ag, ah, ai]
      refine wpAnyH_take (i := 2) (oi := ({ dst := some 30, op := Op.load 25 (Operand.tmp 6), type := 25, pos := "laws.go:427", after := #[], guard := none } : Oper)) (v := ?_) rfl (by kernel_rfl) (by kernel_rfl) (by kernel_rfl) (fun _ _ _ h => h) (Or.inl ⟨by kernel_rfl, ?_⟩) (by assumption) ?_
      rotate_left
      · intro W0 hSw; (try dsimp only at hSw); go_simp <;> with_reducible rfl
      try simp only [Act.put, ag, ah, ai]
      refine wpAnyH_ready (rs := [3]) (by kernel_rfl) (by simp) ?_
      refine (AllReadyH.cons rfl (fun K hK => ?_) AllReadyH.nil)
      go_simp
      refine (yy cS W4.drew ((yy HC).kept (yy HV)).stars).mono ?_
      rintro e V1 ⟨⟨a2, cap2, rfl, hC2⟩, hx⟩
      replace HV := yz (aj (yy HV) hx)
      have HX2 := yz hC2
      clear hx hC2
      refine hK.out _ _ ?_ (fun hHeld1 => ?_)
      · exact yy HKS _ (yy HV)
      clear hK K
      refine wpAnyH_ready (rs := [4]) (by kernel_rfl) (by simp) ?_
      refine (AllReadyH.cons rfl (fun K hK => ?_) AllReadyH.nil)
      go_simp
      refine (yy cO V1 a2 cap2 ((yy HX).kept (yy HV)).stars (yy HX2).stars).mono ?_
      rintro e V2 ⟨rfl, hx⟩
      replace HV := yz (aj (yy HV) hx)
      clear hx HX2
      refine hK.out _ _ ?_ (fun hHeld2 => ?_)
      · exact yy HKS _ (yy HV)
      clear hK K
      refine wpAnyH_take (i := 5) (oi := ({ dst := some 33, op := Op.unOp UnOp.not 4 (Operand.tmp 32), type := 4, pos := "laws.go:427", after := #[{ on := 4, ground := Ground.data }], guard := none } : Oper)) (v := ?_) rfl (by kernel_rfl) (by kernel_rfl) (by kernel_rfl) (fun _ _ _ h => h) (Or.inl ⟨by kernel_rfl, ?_⟩) (by assumption) ?_
      rotate_left
      · intro W0 hSw; (try dsimp only at hSw); go_simp <;> with_reducible rfl
      try simp only [Act.put, ag, ah, ai]
      refine wpAnyH_take (i := 6) (oi := ({ dst := some 34, op := Op.move (Operand.tmp 33), type := 4, pos := "laws.go:427", after := #[{ on := 5, ground := Ground.data }, { on := 4, ground := Ground.chain }], guard := none } : Oper)) (v := ?_) rfl (by kernel_rfl) (by kernel_rfl) (by kernel_rfl) (fun _ _ _ h => h) (Or.inl ⟨by kernel_rfl, ?_⟩) (by assumption) ?_
      rotate_left
      · intro W0 hSw; (try dsimp only at hSw); go_simp <;> with_reducible rfl
      try simp only [Act.put, ag, ah, ai]
      refine wpAnyH_take (i := 7) (oi := ({ dst := some 35, op := Op.fieldAddr 32 (Operand.tmp 7) 1, type := 0, pos := "laws.go:427", after := #[{ on := 6, ground := Ground.guard }], guard := some (6, false) } : Oper)) (v := ?_) rfl (by kernel_rfl) (by kernel_rfl) (by kernel_rfl) (fun _ _ _ h => h) (Or.inl ⟨by kernel_rfl, ?_⟩) (by assumption) ?_
      rotate_left
      · intro W0 hSw; (try dsimp only at hSw); go_simp <;> with_reducible rfl
      try simp only [Act.put, ag, ah, ai]
      refine wpAnyH_take (i := 8) (oi := ({ dst := some 36, op := Op.load 2 (Operand.tmp 35), type := 2, pos := "laws.go:427", after := #[{ on := 7, ground := Ground.data }, { on := 6, ground := Ground.guard }], guard := some (6, false) } : Oper)) (v := ?_) rfl (by kernel_rfl) (by kernel_rfl) (by kernel_rfl) (fun _ _ _ h => h) (Or.inl ⟨by kernel_rfl, ?_⟩) (by assumption) ?_
      rotate_left
      · intro W0 hSw; (try dsimp only at hSw); go_simp <;> with_reducible rfl
      try simp only [Act.put, ag, ah, ai]
      refine wpAnyH_take (i := 9) (oi := ({ dst := some 37, op := Op.binOp BinOp.neq 2 (Operand.tmp 36) (Operand.const (Value.int IntKind.i64 0)) 2, type := 4, pos := "laws.go:427", after := #[{ on := 8, ground := Ground.data }, { on := 6, ground := Ground.guard }], guard := some (6, false) } : Oper)) (v := (.bool false)) rfl (by kernel_rfl) (by kernel_rfl) (by kernel_rfl) (fun _ _ _ h => h) (Or.inl ⟨by kernel_rfl, ?_⟩) (by assumption) ?_
      · intro W0 hSw; (try dsimp only at hSw); go_simp <;> simp [yy e1]
      try simp only [Act.put, ag, ah, ai]
      refine wpAnyH_take (i := 10) (oi := ({ dst := some 38, op := Op.pick (Operand.tmp 34) (Operand.const (Value.bool true)) (Operand.tmp 37), type := 4, pos := "laws.go:427", after := #[{ on := 6, ground := Ground.data }, { on := 9, ground := Ground.data }], guard := none } : Oper)) (v := ?_) rfl (by kernel_rfl) (by kernel_rfl) (by kernel_rfl) (fun _ _ _ h => h) (Or.inl ⟨by kernel_rfl, ?_⟩) (by assumption) ?_
      rotate_left
      · intro W0 hSw; (try dsimp only at hSw); go_simp <;> with_reducible rfl
      try simp only [Act.put, ag, ah, ai]
      refine wpAnyH_take (i := 11) (oi := ({ dst := some 39, op := Op.move (Operand.tmp 38), type := 4, pos := "laws.go:427", after := #[{ on := 10, ground := Ground.data }, { on := 6, ground := Ground.chain }], guard := none } : Oper)) (v := ?_) rfl (by kernel_rfl) (by kernel_rfl) (by kernel_rfl) (fun _ _ _ h => h) (Or.inl ⟨by kernel_rfl, ?_⟩) (by assumption) ?_
      rotate_left
      · intro W0 hSw; (try dsimp only at hSw); go_simp <;> with_reducible rfl
      try simp only [Act.put, ag, ah, ai]
      refine wpAnyH_take (i := 12) (oi := ({ dst := some 40, op := Op.fieldAddr 27 (Operand.tmp 5) 2, type := 0, pos := "laws.go:427", after := #[{ on := 11, ground := Ground.guard }], guard := some (11, false) } : Oper)) (v := ?_) rfl (by kernel_rfl) (by kernel_rfl) (by kernel_rfl) (fun _ _ _ h => h) (Or.inl ⟨by kernel_rfl, ?_⟩) (by assumption) ?_
      rotate_left
      · intro W0 hSw; (try dsimp only at hSw); go_simp <;> with_reducible rfl
      try simp only [Act.put, ag, ah, ai]
      refine wpAnyH_take (i := 13) (oi := ({ dst := some 41, op := Op.load 2 (Operand.tmp 40), type := 2, pos := "laws.go:427", after := #[{ on := 12, ground := Ground.data }, { on := 11, ground := Ground.guard }], guard := some (11, false) } : Oper)) (v := ?_) rfl (by kernel_rfl) (by kernel_rfl) (by kernel_rfl) (fun _ _ _ h => h) (Or.inl ⟨by kernel_rfl, ?_⟩) (by assumption) ?_
      rotate_left
      · intro W0 hSw; (try dsimp only at hSw); go_simp <;> with_reducible rfl
      try simp only [Act.put, ag, ah, ai]
      refine wpAnyH_take (i := 14) (oi := ({ dst := some 42, op := Op.binOp BinOp.eql 2 (Operand.tmp 41) (Operand.const (Value.int IntKind.i64 0)) 2, type := 4, pos := "laws.go:427", after := #[{ on := 13, ground := Ground.data }, { on := 11, ground := Ground.guard }], guard := some (11, false) } : Oper)) (v := (.bool false)) rfl (by kernel_rfl) (by kernel_rfl) (by kernel_rfl) (fun _ _ _ h => h) (Or.inl ⟨by kernel_rfl, ?_⟩) (by assumption) ?_
      · intro W0 hSw; (try dsimp only at hSw); go_simp <;> simp [yy e2]
      try simp only [Act.put, ag, ah, ai]
      refine wpAnyH_take (i := 15) (oi := ({ dst := some 43, op := Op.pick (Operand.tmp 39) (Operand.const (Value.bool true)) (Operand.tmp 42), type := 4, pos := "laws.go:427", after := #[{ on := 11, ground := Ground.data }, { on := 14, ground := Ground.data }], guard := none } : Oper)) (v := ?_) rfl (by kernel_rfl) (by kernel_rfl) (by kernel_rfl) (fun _ _ _ h => h) (Or.inl ⟨by kernel_rfl, ?_⟩) (by assumption) ?_
      rotate_left
      · intro W0 hSw; (try dsimp only at hSw); go_simp <;> with_reducible rfl
      try simp only [Act.put, ag, ah, ai]
      refine wpAnyH_take (i := 16) (oi := ({ dst := some 44, op := Op.move (Operand.tmp 43), type := 4, pos := "laws.go:427", after := #[{ on := 15, ground := Ground.data }, { on := 11, ground := Ground.chain }], guard := none } : Oper)) (v := ?_) rfl (by kernel_rfl) (by kernel_rfl) (by kernel_rfl) (fun _ _ _ h => h) (Or.inl ⟨by kernel_rfl, ?_⟩) (by assumption) ?_
      rotate_left
      · intro W0 hSw; (try dsimp only at hSw); go_simp <;> with_reducible rfl
      try simp only [Act.put, ag, ah, ai]
      refine wpAnyH_take (i := 17) (oi := ({ dst := some 45, op := Op.fieldAddr 27 (Operand.tmp 5) 5, type := 0, pos := "laws.go:427", after := #[{ on := 16, ground := Ground.guard }], guard := some (16, false) } : Oper)) (v := ?_) rfl (by kernel_rfl) (by kernel_rfl) (by kernel_rfl) (fun _ _ _ h => h) (Or.inl ⟨by kernel_rfl, ?_⟩) (by assumption) ?_
      rotate_left
      · intro W0 hSw; (try dsimp only at hSw); go_simp <;> with_reducible rfl
      try simp only [Act.put, ag, ah, ai]
      refine wpAnyH_take (i := 18) (oi := ({ dst := some 46, op := Op.load 2 (Operand.tmp 45), type := 2, pos := "laws.go:427", after := #[{ on := 17, ground := Ground.data }, { on := 16, ground := Ground.guard }], guard := some (16, false) } : Oper)) (v := ?_) rfl (by kernel_rfl) (by kernel_rfl) (by kernel_rfl) (fun _ _ _ h => h) (Or.inl ⟨by kernel_rfl, ?_⟩) (by assumption) ?_
      rotate_left
      · intro W0 hSw; (try dsimp only at hSw); go_simp <;> with_reducible rfl
      try simp only [Act.put, ag, ah, ai]
      refine wpAnyH_take (i := 19) (oi := ({ dst := some 47, op := Op.binOp BinOp.geq 2 (Operand.tmp 46) (Operand.const (Value.int IntKind.i64 1000000)) 2, type := 4, pos := "laws.go:427", after := #[{ on := 18, ground := Ground.data }, { on := 16, ground := Ground.guard }], guard := some (16, false) } : Oper)) (v := (.bool false)) rfl (by kernel_rfl) (by kernel_rfl) (by kernel_rfl) (fun _ _ _ h => h) (Or.inl ⟨by kernel_rfl, ?_⟩) (by assumption) ?_
      · intro W0 hSw; (try dsimp only at hSw); go_simp <;> first | simp [yy e3] | exact Int.not_le.1 (yy e3)
      try simp only [Act.put, ag, ah, ai]
      refine wpAnyH_take (i := 20) (oi := ({ dst := some 48, op := Op.pick (Operand.tmp 44) (Operand.const (Value.bool true)) (Operand.tmp 47), type := 4, pos := "laws.go:427", after := #[{ on := 16, ground := Ground.data }, { on := 19, ground := Ground.data }], guard := none } : Oper)) (v := ?_) rfl (by kernel_rfl) (by kernel_rfl) (by kernel_rfl) (fun _ _ _ h => h) (Or.inl ⟨by kernel_rfl, ?_⟩) (by assumption) ?_
      rotate_left
      · intro W0 hSw; (try dsimp only at hSw); go_simp <;> with_reducible rfl
      try simp only [Act.put, ag, ah, ai]
      refine wpAnyH_done (by kernel_rfl) ?_ _
      go_wp2_with fail
      go_meet
      exact ⟨_, rfl, by rw [show decide (code ≠ 0 ∨ t.mode = 0 ∨ 1000000 ≤ t.fr) = false by exact decide_eq_false (by have h1 := yy e1; have h2 := yy e2; have h3 := yy e3; omega)], HV⟩
  case rest =>
    obtain ⟨wv, hwv, hu, HV⟩ := hcut
    subst hu
    clear hwv wv
    by_cases hd : code ≠ 0 ∨ t.mode = 0 ∨ 1000000 ≤ t.fr
    · rw [decide_eq_true hd]
      clear hd
      go_upto_region 6 with fail
      refine wp_region_held_drew (S := (fun w' => w'.cell? ⟨xb, 0, none⟩ = some (.slice a1 u.L.length cap1) ∧ w'.cell? ⟨xb, 1, none⟩ = some (.int .i64 u.lim) ∧ w'.cell? ⟨xb, 2, none⟩ = some (.int .i64 u.mode) ∧ w'.cell? ⟨xb, 3, none⟩ = some (.int .i64 u.A) ∧ w'.cell? ⟨xb, 4, none⟩ = some (.int .i64 u.B) ∧ w'.cell? ⟨xb, 5, none⟩ = some (.int .i64 u.C) ∧ w'.cell? ⟨xb, 6, none⟩ = some (.int .i64 u.D) ∧ w'.cell? ⟨xb, 7, none⟩ = some (.int .i64 u.coast) ∧ w'.cell? ⟨xb, 8, none⟩ = some (.int .i64 u.fr) ∧ w'.cell? ⟨xb, 9, none⟩ = some (.int .i64 code) ∧ w'.cell? ⟨W1.heap.size, 0, none⟩ = some (.slice a t.L.length cap) ∧ w'.cell? ⟨W1.heap.size, 1, none⟩ = some (.int .i64 t.lim) ∧ w'.cell? ⟨W1.heap.size, 2, none⟩ = some (.int .i64 t.mode) ∧ w'.cell? ⟨W1.heap.size, 3, none⟩ = some (.int .i64 t.A) ∧ w'.cell? ⟨W1.heap.size, 4, none⟩ = some (.int .i64 t.B) ∧ w'.cell? ⟨W1.heap.size, 5, none⟩ = some (.int .i64 t.C) ∧ w'.cell? ⟨W1.heap.size, 6, none⟩ = some (.int .i64 t.D) ∧ w'.cell? ⟨W1.heap.size, 7, none⟩ = some (.int .i64 t.coast) ∧ w'.cell? ⟨W1.heap.size, 8, none⟩ = some (.int .i64 t.fr) ∧ w'.cell? ⟨W1.heap.size + 1, 0, none⟩ = some (.int .i64 g1) ∧ w'.cell? ⟨W1.heap.size + 1, 1, none⟩ = some (.int .i64 g2) ∧ w'.cell? ⟨W1.heap.size + 1, 2, none⟩ = some (.int .i64 g3) ∧ w'.cell? ⟨W1.heap.size + 1, 3, none⟩ = some (.int .i64 g4))) (by kernel_rfl) (yy HKS wc (yy HV)) (fun hHeld => ?_)
      replace HV : Hid (Below W4.heap.size W4 wc.drew) := yz (yy HV).drew
      refine wpAnyH_take (i := 0) (oi := ({ dst := some 49, op := Op.load 32 (Operand.tmp 7), type := 32, pos := "laws.go:428", after := #[], guard := none } : Oper)) (v := ?_) rfl (by kernel_rfl) (by kernel_rfl) (by kernel_rfl) (fun _ _ _ h => h) (Or.inl ⟨by kernel_rfl, ?_⟩) (by assumption) ?_
      rotate_left
      · intro W0 hSw; (try dsimp only at hSw); go_simp <;> with_reducible rfl
      try simp only [Act.put, ag, ah, ai]
      refine wpAnyH_take (i := 1) (oi := ({ dst := some 50, op := Op.load 27 (Operand.tmp 5), type := 27, pos := "laws.go:428", after := #[], guard := none } : Oper)) (v := ?_) rfl (by kernel_rfl) (by kernel_rfl) (by kernel_rfl) (fun _ _ _ h => h) (Or.inl ⟨by kernel_rfl, ?_⟩) (by assumption) ?_
      rotate_left
      · intro W0 hSw; (try dsimp only at hSw); go_simp <;> with_reducible rfl
      try simp only [Act.put, ag, ah, ai]
      refine wpAnyH_take (i := 2) (oi := ({ dst := some 51, op := Op.load 25 (Operand.tmp 6), type := 25, pos := "laws.go:428", after := #[], guard := none } : Oper)) (v := ?_) rfl (by kernel_rfl) (by kernel_rfl) (by kernel_rfl) (fun _ _ _ h => h) (Or.inl ⟨by kernel_rfl, ?_⟩) (by assumption) ?_
      rotate_left
      · intro W0 hSw; (try dsimp only at hSw); go_simp <;> with_reducible rfl
      try simp only [Act.put, ag, ah, ai]
      refine wpAnyH_ready (rs := [3]) (by kernel_rfl) (by simp) ?_
      refine (AllReadyH.cons rfl (fun K hK => ?_) AllReadyH.nil)
      go_simp
      refine (yy cS wc.drew ((yy HC).kept (yy HV)).stars).mono ?_
      rintro e V1 ⟨⟨a2, cap2, rfl, hC2⟩, hx⟩
      replace HV := yz (aj (yy HV) hx)
      have HX2 := yz hC2
      clear hx hC2
      refine hK.out _ _ ?_ (fun hHeld1 => ?_)
      · exact yy HKS _ (yy HV)
      clear hK K
      refine wpAnyH_ready (rs := [4]) (by kernel_rfl) (by simp) ?_
      refine (AllReadyH.cons rfl (fun K hK => ?_) AllReadyH.nil)
      go_simp
      refine (yy cO V1 a2 cap2 ((yy HX).kept (yy HV)).stars (yy HX2).stars).mono ?_
      rintro e V2 ⟨rfl, hx⟩
      replace HV := yz (aj (yy HV) hx)
      clear hx HX2
      refine hK.out _ _ ?_ (fun hHeld2 => ?_)
      · exact yy HKS _ (yy HV)
      clear hK K
      refine wpAnyH_take (i := 5) (oi := ({ dst := some 4, op := Op.assign (Operand.tmp 53), type := 4, pos := "laws.go:428", after := #[{ on := 4, ground := Ground.data }, { on := 4, ground := Ground.chain }, { on := 0, ground := Ground.phase }, { on := 1, ground := Ground.phase }, { on := 2, ground := Ground.phase }, { on := 3, ground := Ground.phase }, { on := 4, ground := Ground.phase }], guard := none } : Oper)) (v := ?_) rfl (by kernel_rfl) (by kernel_rfl) (by kernel_rfl) (fun _ _ _ h => h) (Or.inl ⟨by kernel_rfl, ?_⟩) (by assumption) ?_
      rotate_left
      · intro W0 hSw; (try dsimp only at hSw); go_simp <;> with_reducible rfl
      try simp only [Act.put, ag, ah, ai]
      refine wpAnyH_done (by kernel_rfl) ?_ _
      go_wp2_with fail
      go_ret
      exact ⟨rfl, aj (yy HB) (yy HV)⟩
    · rw [decide_eq_false hd]
      obtain ⟨hd1, hd2, hd3⟩ : code = 0 ∧ t.mode ≠ 0 ∧ t.fr < 1000000 := by omega
      clear hd
      obtain ⟨f1, f2, f3, f4⟩ := yy HTK hd1
      have F0 := yz hd2
      have F1 := yz f1
      have F3 := yz f3
      have F4 := yz f4
      have F5 := yz hd3
      clear HTK hd1 hd2 hd3 f1 f2 f3 f4 cS cO HU HCO hlu hcm
      have hz4 := (yy HV).size
      have HXw := yz ((yy HXB).kept (yy HV))
      have HTw := yz ((yy HT).kept (yy HV))
      have HGw := yz ((yy HG).kept (yy HV))
      have HEw := yz ((yy HE).kept (yy HV))
      have HCw := yz ((yy HC).kept (yy HV))
      have HUw := yz ((yy HX).kept (yy HV))
      have HBw := yz (aj (yy HB) (yy HV))
      have HR := yz ((yy HR2).upL (yy HBw).size (yy HBw).block)
      clear HXB HT HG HE HC HX HB HV HKS HR2
      obtain ⟨p3, p4, p5, p6⟩ : wc.cell? ⟨W1.heap.size, 3, none⟩ = some (.int .i64 t.A) ∧ wc.cell? ⟨W1.heap.size, 4, none⟩ = some (.int .i64 t.B) ∧ wc.cell? ⟨W1.heap.size, 5, none⟩ = some (.int .i64 t.C) ∧ wc.cell? ⟨W1.heap.size, 6, none⟩ = some (.int .i64 t.D) := ⟨(yy HTw).cell 3 _ rfl, (yy HTw).cell 4 _ rfl, (yy HTw).cell 5 _ rfl, (yy HTw).cell 6 _ rfl⟩
      obtain ⟨q0, q1, q2, q3⟩ : wc.cell? ⟨W1.heap.size + 1, 0, none⟩ = some (.int .i64 g1) ∧ wc.cell? ⟨W1.heap.size + 1, 1, none⟩ = some (.int .i64 g2) ∧ wc.cell? ⟨W1.heap.size + 1, 2, none⟩ = some (.int .i64 g3) ∧ wc.cell? ⟨W1.heap.size + 1, 3, none⟩ = some (.int .i64 g4) := ⟨(yy HGw).cell 0 _ rfl, (yy HGw).cell 1 _ rfl, (yy HGw).cell 2 _ rfl, (yy HGw).cell 3 _ rfl⟩
      go_wp2_with fail
      refine (jO g1 g2 g3 g4 t.A t.B t.C t.D _).mono ?_
      rintro e W5 ⟨rfl, hx⟩
      clear p3 p4 p5 p6 q0 q1 q2 q3
      have HY : Hid (coK g1 g2 g3 g4 t.A t.B t.C t.D = 0 → _) := yz (fun h => rk (yy F0) h)
      have HN : Hid (coK g1 g2 g3 g4 t.A t.B t.C t.D ≠ 0 → _) := yz (fun h => tp (yy F0) h)
      rw [← yy F3] at HY HN
      generalize ku g1 g2 g3 g4 t.A t.B t.C t.D = c1 at *
      generalize kw g1 g2 g3 g4 t.A t.B t.C t.D = c2 at *
      generalize kx g1 g2 g3 g4 t.A t.B t.C t.D = c3 at *
      generalize ky g1 g2 g3 g4 t.A t.B t.C t.D = c4 at *
      generalize coK g1 g2 g3 g4 t.A t.B t.C t.D = ck at *
      replace hx := aj hx (an W5 (.cells #[.int .i64 c1, .int .i64 c2, .int .i64 c3, .int .i64 c4, .int .i64 ck] 48))
      have hz5 := hx.size
      have HO := yz (aF W5 [.int .i64 c1, .int .i64 c2, .int .i64 c3, .int .i64 c4, .int .i64 ck] 48)
      have HXB := yz ((yy HXw).kept hx)
      have HT := yz ((yy HTw).kept hx)
      have HE := yz ((yy HEw).kept hx)
      have HC := yz ((yy HCw).kept hx)
      have HU := yz ((yy HUw).kept hx)
      have HB := yz (aj (yy HBw) hx)
      have HR' := yz ((yy HR).upL hx.size hx.block)
      clear HXw HTw HGw HEw HCw HUw HBw HR hx F3
      have d4 := (yy HO).cell 4 _ rfl
      by_cases hk : ck = 0
      · obtain ⟨y1, y2, y3, y4, y5, y6, y7⟩ := yy HY hk
        clear HY HN
        subst hk
        have Y := yz (And.intro y1 (And.intro y2 (And.intro y3 (And.intro y4 (And.intro y5 (And.intro y6 y7))))))
        clear y1 y2 y3 y4 y5 y6 y7
        have HK10 : Hid (∀ w' : World, Below (W5.alloc (.cells #[.int .i64 c1, .int .i64 c2, .int .i64 c3, .int .i64 c4, .int .i64 0] 48)).heap.size (W5.alloc (.cells #[.int .i64 c1, .int .i64 c2, .int .i64 c3, .int .i64 c4, .int .i64 0] 48)) w' → w'.cell? ⟨W1.heap.size, 0, none⟩ = some (.slice a t.L.length cap) ∧ w'.cell? ⟨W5.heap.size, 0, none⟩ = some (.int .i64 c1) ∧ w'.cell? ⟨W5.heap.size, 1, none⟩ = some (.int .i64 c2) ∧ w'.cell? ⟨W5.heap.size, 2, none⟩ = some (.int .i64 c3) ∧ w'.cell? ⟨W5.heap.size, 3, none⟩ = some (.int .i64 c4)) := yz (fun w' h => ⟨((yy HT).kept h).cell 0 _ rfl, ((yy HO).kept h).cell 0 _ rfl, ((yy HO).kept h).cell 1 _ rfl, ((yy HO).kept h).cell 2 _ rfl, ((yy HO).kept h).cell 3 _ rfl⟩)
        go_upto_region 10 with fail
        clear d4
        generalize W5.alloc (.cells #[.int .i64 c1, .int .i64 c2, .int .i64 c3, .int .i64 c4, .int .i64 0] 48) = W6 at *
        refine wp_region_held_drew (S := (fun w' => w'.cell? ⟨W1.heap.size, 0, none⟩ = some (.slice a t.L.length cap) ∧ w'.cell? ⟨W5.heap.size, 0, none⟩ = some (.int .i64 c1) ∧ w'.cell? ⟨W5.heap.size, 1, none⟩ = some (.int .i64 c2) ∧ w'.cell? ⟨W5.heap.size, 2, none⟩ = some (.int .i64 c3) ∧ w'.cell? ⟨W5.heap.size, 3, none⟩ = some (.int .i64 c4))) (by kernel_rfl) (yy HK10 W6 (Below.refl _ _)) (fun hHeld => ?_)
        have HV : Hid (Below W6.heap.size W6 W6.drew) := yz (Below.refl W6.heap.size W6).drew
        refine wpAnyH_take (i := 0) (oi := ({ dst := some 66, op := Op.fieldAddr 27 (Operand.tmp 5) 0, type := 0, pos := "laws.go:434", after := #[], guard := none } : Oper)) (v := ?_) rfl (by kernel_rfl) (by kernel_rfl) (by kernel_rfl) (fun _ _ _ h => h) (Or.inl ⟨by kernel_rfl, ?_⟩) (by assumption) ?_
        rotate_left
        · intro W0 hSw; (try dsimp only at hSw); go_simp <;> with_reducible rfl
        try simp only [Act.put, ag, ah, ai]
        refine wpAnyH_take (i := 1) (oi := ({ dst := some 67, op := Op.load 23 (Operand.tmp 66), type := 23, pos := "laws.go:434", after := #[{ on := 0, ground := Ground.data }], guard := none } : Oper)) (v := ?_) rfl (by kernel_rfl) (by kernel_rfl) (by kernel_rfl) (fun _ _ _ h => h) (Or.inl ⟨by kernel_rfl, ?_⟩) (by assumption) ?_
        rotate_left
        · intro W0 hSw; (try dsimp only at hSw); go_simp <;> with_reducible rfl
        try simp only [Act.put, ag, ah, ai]
        refine wpAnyH_take (i := 2) (oi := ({ dst := some 68, op := Op.fieldAddr 48 (Operand.tmp 8) 0, type := 0, pos := "laws.go:434", after := #[], guard := none } : Oper)) (v := ?_) rfl (by kernel_rfl) (by kernel_rfl) (by kernel_rfl) (fun _ _ _ h => h) (Or.inl ⟨by kernel_rfl, ?_⟩) (by assumption) ?_
        rotate_left
        · intro W0 hSw; (try dsimp only at hSw); go_simp <;> with_reducible rfl
        try simp only [Act.put, ag, ah, ai]
        refine wpAnyH_take (i := 3) (oi := ({ dst := some 69, op := Op.load 25 (Operand.tmp 68), type := 25, pos := "laws.go:434", after := #[{ on := 2, ground := Ground.data }], guard := none } : Oper)) (v := ?_) rfl (by kernel_rfl) (by kernel_rfl) (by kernel_rfl) (fun _ _ _ h => h) (Or.inl ⟨by kernel_rfl, ?_⟩) (by assumption) ?_
        rotate_left
        · intro W0 hSw; (try dsimp only at hSw); go_simp <;> with_reducible rfl
        try simp only [Act.put, ag, ah, ai]
        refine wpAnyH_take (i := 4) (oi := ({ dst := some 70, op := Op.move (Operand.tmp 1), type := 22, pos := "laws.go:434", after := #[], guard := none } : Oper)) (v := ?_) rfl (by kernel_rfl) (by kernel_rfl) (by kernel_rfl) (fun _ _ _ h => h) (Or.inl ⟨by kernel_rfl, ?_⟩) (by assumption) ?_
        rotate_left
        · intro W0 hSw; (try dsimp only at hSw); go_simp <;> with_reducible rfl
        try simp only [Act.put, ag, ah, ai]
        refine wpAnyH_ready (rs := [5]) (by kernel_rfl) (by simp) ?_
        refine (AllReadyH.cons rfl (fun K hK => ?_) AllReadyH.nil)
        go_simp
        refine (tX da len2 dc 0 90 _ hl2 (by omega) (by omega) ((yy HR').upL (yy HV).size (yy HV).block)).mono ?_
        rintro e V1 ⟨cone, rfl, _, _, _, rfl⟩
        refine hK.out _ _ ?_ (fun hHeld1 => ?_)
        · exact yy HK10 _ (yy HV)
        clear hK K
        refine wpAnyH_ready (rs := [6]) (by kernel_rfl) (by simp) ?_
        refine (AllReadyH.cons rfl (fun K hK => ?_) AllReadyH.nil)
        go_simp
        refine (pL t.L c1 c2 c3 c4 cone a cap _ (by omega) ((yy HC).kept (yy HV)).stars).mono ?_
        rintro e V2 ⟨sa, ia, sc, ic, rfl, hS, hI, hx⟩
        replace HV := yz (aj (yy HV) hx)
        have HSP := yz hS
        have HIP := yz hI
        clear hx hS hI
        refine hK.out _ _ ?_ (fun hHeld2 => ?_)
        · exact yy HK10 _ (yy HV)
        clear hK K
        refine wpAnyH_take (i := 7) (oi := ({ dst := some 65, op := Op.move (Operand.tmp 72), type := 50, pos := "laws.go:434", after := #[{ on := 6, ground := Ground.data }], guard := none } : Oper)) (v := ?_) rfl (by kernel_rfl) (by kernel_rfl) (by kernel_rfl) (fun _ _ _ h => h) (Or.inl ⟨by kernel_rfl, ?_⟩) (by assumption) ?_
        rotate_left
        · intro W0 hSw; (try dsimp only at hSw); go_simp <;> with_reducible rfl
        try simp only [Act.put, ag, ah, ai]
        refine wpAnyH_take (i := 8) (oi := ({ dst := some 73, op := Op.extract (Operand.tmp 65) 0, type := 28, pos := "laws.go:434", after := #[{ on := 7, ground := Ground.data }], guard := none } : Oper)) (v := ?_) rfl (by kernel_rfl) (by kernel_rfl) (by kernel_rfl) (fun _ _ _ h => h) (Or.inl ⟨by kernel_rfl, ?_⟩) (by assumption) ?_
        rotate_left
        · intro W0 hSw; (try dsimp only at hSw); go_simp <;> with_reducible rfl
        try simp only [Act.put, ag, ah, ai]
        refine wpAnyH_take (i := 9) (oi := ({ dst := some 74, op := Op.extract (Operand.tmp 65) 1, type := 44, pos := "laws.go:434", after := #[{ on := 7, ground := Ground.data }, { on := 10, ground := Ground.gcOnly Departure.lateStores }], guard := none } : Oper)) (v := ?_) rfl (by kernel_rfl) (by kernel_rfl) (by kernel_rfl) (fun _ _ _ h => h) (Or.inl ⟨by kernel_rfl, ?_⟩) (by assumption) ?_
        rotate_left
        · intro W0 hSw; (try dsimp only at hSw); go_simp <;> with_reducible rfl
        try simp only [Act.put, ag, ah, ai]
        refine wpAnyH_take (i := 10) (oi := ({ dst := some 9, op := Op.assign (Operand.tmp 73), type := 28, pos := "laws.go:434", after := #[{ on := 8, ground := Ground.data }, { on := 6, ground := Ground.chain }, { on := 0, ground := Ground.phase }, { on := 1, ground := Ground.phase }, { on := 2, ground := Ground.phase }, { on := 3, ground := Ground.phase }, { on := 4, ground := Ground.phase }, { on := 5, ground := Ground.phase }, { on := 6, ground := Ground.phase }, { on := 7, ground := Ground.phase }, { on := 8, ground := Ground.phase }, { on := 9, ground := Ground.textOnly Departure.lateStores }], guard := none } : Oper)) (v := ?_) rfl (by kernel_rfl) (by kernel_rfl) (by kernel_rfl) (fun _ _ _ h => h) (Or.inl ⟨by kernel_rfl, ?_⟩) (by assumption) ?_
        rotate_left
        · intro W0 hSw; (try dsimp only at hSw); go_simp <;> with_reducible rfl
        try simp only [Act.put, ag, ah, ai]
        refine wpAnyH_take (i := 11) (oi := ({ dst := some 10, op := Op.assign (Operand.tmp 74), type := 44, pos := "laws.go:434", after := #[{ on := 9, ground := Ground.data }, { on := 10, ground := Ground.chain }, { on := 0, ground := Ground.phase }, { on := 1, ground := Ground.phase }, { on := 2, ground := Ground.phase }, { on := 3, ground := Ground.phase }, { on := 4, ground := Ground.phase }, { on := 5, ground := Ground.phase }, { on := 6, ground := Ground.phase }, { on := 7, ground := Ground.phase }, { on := 8, ground := Ground.phase }, { on := 9, ground := Ground.phase }, { on := 10, ground := Ground.phase }], guard := none } : Oper)) (v := ?_) rfl (by kernel_rfl) (by kernel_rfl) (by kernel_rfl) (fun _ _ _ h => h) (Or.inl ⟨by kernel_rfl, ?_⟩) (by assumption) ?_
        rotate_left
        · intro W0 hSw; (try dsimp only at hSw); go_simp <;> with_reducible rfl
        try simp only [Act.put, ag, ah, ai]
        refine wpAnyH_done (by kernel_rfl) ?_ _
        have HX7 := yz ((yy HXB).kept (yy HV))
        have HO7 := yz ((yy HO).kept (yy HV))
        have HE7 := yz ((yy HE).kept (yy HV))
        have HU7 := yz ((yy HU).kept (yy HV))
        have HB7 := yz (aj (yy HB) (yy HV))
        clear HXB HO HE HU HB HV HC HT HR' HIP
        have hdd := gA (yy HSP)
        have hm9 : maxLen ≤ 9223372036854775807 := by decide +kernel
        have hcu := (yy HU7).capMax
        have hsl := jn t.L c1 c2 c3 c4 cone
        have hsi := oJ t.L c1 c2 c3 c4 cone
        obtain ⟨y1, y2, y3, y4, y5, y6, y7⟩ := yy Y
        have hlu : u.L.length ≤ 1048576 := by rw [y1]; omega
        have cL := og u.L (scS t.L c1 c2 c3 c4 cone) u.lim u.mode u.A u.B u.C u.D u.coast u.fr a1 cap1 sa sc p V2 hlu (by omega) (yy HU7).stars hdd.1 (fun x e => (bz (yy HU7) x e).2) (fun x e => (bz (yy HSP) x e).2) hcu.1 (by omega) hdd.2.1 (by omega) (yy HE7)
        have LS := qG (yy F4) (by rw [y2]; exact yy F0) (by rw [y3]; exact yy F5) cone
        rw [y1, y4, y5, y6, y7] at LS
        obtain ⟨y, hy⟩ : ∃ y, y = bM ⟨u.L, u.lim, u.mode, u.A, u.B, u.C, u.D, u.coast, u.fr⟩ (scS t.L c1 c2 c3 c4 cone) := ⟨_, rfl⟩
        obtain ⟨yc, hyc⟩ : ∃ y, y = eQ ⟨u.L, u.lim, u.mode, u.A, u.B, u.C, u.D, u.coast, u.fr⟩ (scS t.L c1 c2 c3 c4 cone) := ⟨_, rfl⟩
        have LS2 : yc = 0 ∧ (2 ≤ (scI t.L c1 c2 c3 c4 cone).length → y.mode = 1 ∧ y.A = c1 ∧ y.B = c2 ∧ y.C = c3 ∧ y.D = c4) := by rw [hyc, hy]; exact LS
        rw [← hy, ← hyc, hsl] at cL
        replace cL := yz cL
        obtain ⟨x0, x1, x2, x3, x4, x5, x6, x7, x8⟩ := dT (yy HX7)
        replace y4 := yz y4
        replace y5 := yz y5
        replace y6 := yz y6
        replace y7 := yz y7
        obtain ⟨l1, l2⟩ := LS2
        replace l2 := yz l2
        clear LS hy hyc y1 y2 y3 hlu hcu hdd Y F0 F1 F4 F5 HSP HU7 HE7 hsl
        generalize (scI t.L c1 c2 c3 c4 cone).length = n at *
        generalize scS t.L c1 c2 c3 c4 cone = S at *
        go_wp2_with fail
        refine (yy cL).mono ?_
        rintro e V3 ⟨⟨ya, ycap, rfl, hC⟩, hx⟩
        subst l1
        clear x0 x1 x2 x3 x4 x5 x6 x7 x8 cL hC
        replace hx := aj hx (an V3 (.cells #[.slice ya y.L.length ycap, .int .i64 y.lim, .int .i64 y.mode, .int .i64 y.A, .int .i64 y.B, .int .i64 y.C, .int .i64 y.D, .int .i64 y.coast, .int .i64 y.fr, .int .i64 0] 32))
        have HY8 := yz (aF V3 [.slice ya y.L.length ycap, .int .i64 y.lim, .int .i64 y.mode, .int .i64 y.A, .int .i64 y.B, .int .i64 y.C, .int .i64 y.D, .int .i64 y.coast, .int .i64 y.fr, .int .i64 0] 32)
        have HX8 := yz ((yy HX7).kept hx)
        have HO8 := yz ((yy HO7).kept hx)
        have HB8 := yz (aj (yy HB7) hx)
        clear HX7 HO7 HB7 hx
        have x3 := (yy HX8).cell 3 _ rfl
        have x4 := (yy HX8).cell 4 _ rfl
        have x5 := (yy HX8).cell 5 _ rfl
        have x6 := (yy HX8).cell 6 _ rfl
        rw [yy y4] at x3
        rw [yy y5] at x4
        rw [yy y6] at x5
        rw [yy y7] at x6
        obtain ⟨o0, o1, o2, o3⟩ := uE (yy HO8)
        have z9 := (yy HY8).cell 9 _ rfl
        have z2 := (yy HY8).cell 2 _ rfl
        have z3 := (yy HY8).cell 3 _ rfl
        have z4 := (yy HY8).cell 4 _ rfl
        have z5 := (yy HY8).cell 5 _ rfl
        have z6 := (yy HY8).cell 6 _ rfl
        generalize y.mode = ym at *
        generalize y.A = yA at *
        generalize y.B = yB at *
        generalize y.C = yC at *
        generalize y.D = yD at *
        by_cases hn : ((n : Nat) : Int) < 2
        · clear l2
          go_wp2_with fail
          go_ret
          exact ⟨rfl, yy HB8⟩
        · obtain ⟨m1, m2, m3, m4, m5⟩ := yy l2 (by omega)
          clear l2
          subst m1 m2 m3 m4 m5
          go_wp2_with fail
          go_ret
          exact ⟨rfl, yy HB8⟩
      · obtain ⟨m0⟩ : Nonempty (u.mode = 0) := ⟨yy HN hk⟩
        have x2 := (yy HXB).cell 2 _ rfl
        rw [m0] at x2
        go_wp2_with fail
        go_ret
        exact ⟨rfl, yy HB⟩
end
end Go.Proofs.YtgiodlllokdcdaaGreatDoor
