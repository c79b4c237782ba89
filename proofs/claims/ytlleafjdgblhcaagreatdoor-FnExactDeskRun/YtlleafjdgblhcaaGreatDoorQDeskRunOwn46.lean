/- Several texts in one: DtG. -/
import Derived.Test.YtlleafjdgblhcaaGreatDoorQDeskRunOwn45
import Derived.Test.YtlleafjdgblhcaaGreatDoorQDeskRunOwn1
namespace Go.Proofs.YtlleafjdgblhcaaGreatDoor
set_option linter.unusedVariables false
set_option linter.unusedSimpArgs false
set_option maxRecDepth 100000
set_option maxHeartbeats 8000000
section
open Go.RowKit Go.Sort
theorem zF (w : World) (B : Nat) (t : Tk) (u : U4) (a : Option Addr) (cap : Nat) (p : Addr) (tx : ByteArray) (n : Int) (hs : tx.size ≤ 9223372036854775807) (hk : aD t = true) (hB : B ≤ w.heap.size) (hC : az w B t.L a cap) (hE : jY p w) :
  Calls Tryz.prog 77 #[.agg #[.slice a t.L.length cap, .int .i64 t.lim, .int .i64 t.mode, .int .i64 t.A, .int .i64 t.B, .int .i64 t.C, .int .i64 t.D, .int .i64 t.coast, .int .i64 t.fr, .int .i64 u.1, .int .i64 u.2.1, .int .i64 u.2.2.1, .int .i64 u.2.2.2], .agg #[.string tx, .int .i64 n]] w fun e w' => Ans w' B (t, u) (bt t u tx true) e ∧ Below w.heap.size w w' := by
 have hn : t.L.length ≤ 1048576 := Nat.le_trans (gt hk).1 (by decide)
 have hmx : maxLen ≤ 9223372036854775807 := by decide +kernel
 have hcp := gg hC
 have HZ := yz (aO w (.cells #[.slice a t.L.length cap, .int .i64 t.lim, .int .i64 t.mode, .int .i64 t.A, .int .i64 t.B, .int .i64 t.C, .int .i64 t.D, .int .i64 t.coast, .int .i64 t.fr, .int .i64 u.1, .int .i64 u.2.1, .int .i64 u.2.2.1, .int .i64 u.2.2.2] 51) (.cells #[.string tx, .int .i64 n] 77))
 have hC0 := hC.kept (yy HZ)
 have hE0 := hE.kept (yy HZ)
 have HFR : Hid (∀ x, a = some x → x.block < w.heap.size) := yz (fun x e => (bX hC x e).2)
 have HC : Hid (bt t u tx true = if dR tx = 0 then (if gM tx u = 0 then ((fM t (rd1 tx) (rd2 tx) (rd3 tx) (rd4 tx), xG tx u), eI) else ((t, u), fR (gM tx u).toNat)) else ((t, u), fR (dR tx).toNat)) := yz rfl
 have cR := yz (lk tx _ hs hE0.2)
 have hsp1 := jh tx
 have hsp2 : 0 ≤ gM tx u ∧ gM tx u ≤ 9 := md _ _ _ _ _ _ _ _
 unfold xG gM at HC
 unfold gM at hsp2
 generalize bt t u tx true = R at *
 have HYC : Hid (coK (rd1 tx) (rd2 tx) (rd3 tx) (rd4 tx) u.1 u.2.1 u.2.2.1 u.2.2.2 = 0 → iu t (rd1 tx) (rd2 tx) (rd3 tx) (rd4 tx) = 0) := yz (fun h => by unfold iu fJ; rw [hk, (qs h).1]; rfl)
 generalize rd1 tx = g1 at *
 generalize rd2 tx = g2 at *
 generalize rd3 tx = g3 at *
 generalize rd4 tx = g4 at *
 generalize dR tx = gc at *
 obtain ⟨u1, u2, u3, u4⟩ := u
 obtain ⟨L, lim, mode, A, B', C, D, coast, fr⟩ := t
 dsimp only at hn hC0 hcp HZ hE0 HC hsp2 cR HYC ⊢
 have cC := yz (fun W => nj g1 g2 g3 g4 u1 u2 u3 u4 W)
 have cG := yz (fun W h1 h2 => tY L lim mode A B' C D coast fr g1 g2 g3 g4 a cap p W hn hcp.1 (by omega) h1 h2)
 generalize mw g1 g2 g3 g4 u1 u2 u3 u4 = x1 at *
 generalize mQ g1 g2 g3 g4 u1 u2 u3 u4 = x2 at *
 generalize mr g1 g2 g3 g4 u1 u2 u3 u4 = x3 at *
 generalize lU g1 g2 g3 g4 u1 u2 u3 u4 = x4 at *
 generalize coK g1 g2 g3 g4 u1 u2 u3 u4 = xk at *
 generalize fM (⟨L, lim, mode, A, B', C, D, coast, fr⟩ : Tk) g1 g2 g3 g4 = t2 at *
 generalize iu (⟨L, lim, mode, A, B', C, D, coast, fr⟩ : Tk) g1 g2 g3 g4 = yc at *
 obtain ⟨L2, l2, m2, A2, B2, C2, D2, o2, f2⟩ := t2
 have HD := yz ((ap w [.slice a L.length cap, .int .i64 lim, .int .i64 mode, .int .i64 A, .int .i64 B', .int .i64 C, .int .i64 D, .int .i64 coast, .int .i64 fr, .int .i64 u1, .int .i64 u2, .int .i64 u3, .int .i64 u4] 51).alloc (.cells #[.string tx, .int .i64 n] 77))
 have HX : Hid (Blk ((w.alloc (.cells #[.slice a L.length cap, .int .i64 lim, .int .i64 mode, .int .i64 A, .int .i64 B', .int .i64 C, .int .i64 D, .int .i64 coast, .int .i64 fr, .int .i64 u1, .int .i64 u2, .int .i64 u3, .int .i64 u4] 51)).alloc (.cells #[.string tx, .int .i64 n] 77)) (w.heap.size + 1) [.string tx, .int .i64 n] 77) := yz (by have h := ap (w.alloc (.cells #[.slice a L.length cap, .int .i64 lim, .int .i64 mode, .int .i64 A, .int .i64 B', .int .i64 C, .int .i64 D, .int .i64 coast, .int .i64 fr, .int .i64 u1, .int .i64 u2, .int .i64 u3, .int .i64 u4] 51)) [.string tx, .int .i64 n] 77; simpa using h)
 have HCC := yz hC0
 have HE := yz hE0
 have c0 := (yy HX).cell 0 _ rfl
 clear hC hE hC0 hE0
 go_enter Tryz.func77, Tryz.ntmps77
 go_wp2_with fail
 refine (yy cR).mono ?_
 rintro e W1 ⟨rfl, hx⟩
 have hal : ((w.alloc (.cells #[.slice a L.length cap, .int .i64 lim, .int .i64 mode, .int .i64 A, .int .i64 B', .int .i64 C, .int .i64 D, .int .i64 coast, .int .i64 fr, .int .i64 u1, .int .i64 u2, .int .i64 u3, .int .i64 u4] 51)).alloc (.cells #[.string tx, .int .i64 n] 77)).heap.size = w.heap.size + 2 := by simp
 have hy := an W1 (.cells #[.int .i64 g1, .int .i64 g2, .int .i64 g3, .int .i64 g4, .int .i64 gc] 94)
 have HG1 := yz (ap W1 [.int .i64 g1, .int .i64 g2, .int .i64 g3, .int .i64 g4, .int .i64 gc] 94)
 have HD1 := yz (((yy HD).kept hx).kept hy)
 have HC1 := yz (((yy HCC).kept hx).kept hy)
 have HE1 := yz (((yy HE).kept hx).kept hy)
 have HB1 := yz (ak (ak (yy HZ) hx) hy)
 have hgb : w.heap.size < W1.heap.size := by have := hx.size; omega
 clear hx hy HD HX HCC HE HZ hal c0 cR
 go_upto_region 2 with fail
 generalize W1.alloc (.cells #[.int .i64 g1, .int .i64 g2, .int .i64 g3, .int .i64 g4, .int .i64 gc] 94) = W at *
 generalize W1.heap.size = gb at *
 obtain ⟨k0, k1, k2, k3⟩ := we (yy HG1)
 have d9 := (yy HD1).cell 9 _ rfl
 have d10 := (yy HD1).cell 10 _ rfl
 have d11 := (yy HD1).cell 11 _ rfl
 have d12 := (yy HD1).cell 12 _ rfl
 go_wp2_with fail
 refine ((yy cC) _).mono ?_
 rintro e W2 ⟨rfl, hx⟩
 have hy := an W2 (.cells #[.int .i64 x1, .int .i64 x2, .int .i64 x3, .int .i64 x4, .int .i64 xk] 94)
 have HX2 := yz (ap W2 [.int .i64 x1, .int .i64 x2, .int .i64 x3, .int .i64 x4, .int .i64 xk] 94)
 have HG2 := yz (((yy HG1).kept hx).kept hy)
 have HD2 := yz (((yy HD1).kept hx).kept hy)
 have HC2 := yz (((yy HC1).kept hx).kept hy)
 have HE2 := yz (((yy HE1).kept hx).kept hy)
 have HB2 := yz (ak (ak (yy HB1) hx) hy)
 have hxb : w.heap.size < W2.heap.size := by have := hx.size; have := (yy HG1).lt; omega
 clear hx hy HG1 HD1 HC1 HE1 HB1 k0 k1 k2 k3 d9 d10 d11 d12 cC
 go_upto_region 3 with fail
 generalize W2.alloc (.cells #[.int .i64 x1, .int .i64 x2, .int .i64 x3, .int .i64 x4, .int .i64 xk] 94) = W3 at *
 generalize W2.heap.size = xb at *
 obtain ⟨k0, k1, k2, k3⟩ := we (yy HG2)
 obtain ⟨d0, d1, d2, d3, d4, d5, d6, d7, d8⟩ := fh (yy HD2)
 go_wp2_with fail
 refine ((yy cG) _ (yy HE2).1 (yy HC2).stars).mono ?_
 rintro e W5 ⟨⟨a2, cap2, rfl, hCG⟩, hx⟩
 have hy := an W5 (.cells #[.slice a2 L2.length cap2, .int .i64 l2, .int .i64 m2, .int .i64 A2, .int .i64 B2, .int .i64 C2, .int .i64 D2, .int .i64 o2, .int .i64 f2, .int .i64 yc] 36)
 have HH3 := yz (ap W5 [.slice a2 L2.length cap2, .int .i64 l2, .int .i64 m2, .int .i64 A2, .int .i64 B2, .int .i64 C2, .int .i64 D2, .int .i64 o2, .int .i64 f2, .int .i64 yc] 36)
 have hw3 : w.heap.size < W3.heap.size := (yy HD2).lt
 have hxl : xb < W3.heap.size := (yy HX2).lt
 have HG3 := yz (((yy HG2).kept hx).kept hy)
 have HX3 := yz (((yy HX2).kept hx).kept hy)
 have HD3 := yz (((yy HD2).kept hx).kept hy)
 have HC3 : Hid (az _ B L2 a2 cap2) := yz (az.kept (cg hCG (show B ≤ W3.heap.size by omega)) hy)
 have HFR2 : Hid (∀ x, a2 = some x → x.block ≠ w.heap.size) := yz (fun x e => by have := (bX hCG x e).1; omega)
 have HB3 := yz (ak (ak (yy HB2) hx) hy)
 have hhb : w.heap.size < W5.heap.size := by have := hx.size; omega
 clear hx hy hCG HG2 HD2 HC2 HE2 HB2 HX2 k0 k1 k2 k3 d0 d1 d2 d3 d4 d5 d6 d7 d8 cG
 go_upto_region 4 with fail
 generalize W5.alloc (.cells #[.slice a2 L2.length cap2, .int .i64 l2, .int .i64 m2, .int .i64 A2, .int .i64 B2, .int .i64 C2, .int .i64 D2, .int .i64 o2, .int .i64 f2, .int .i64 yc] 36) = W6 at *
 generalize W5.heap.size = hb at *
 have hxl6 : xb < W6.heap.size := (yy HX3).lt
 have hhl6 : hb < W6.heap.size := (yy HH3).lt
 have HKS0 : Hid ((W6.cell? ⟨xb, 0, none⟩ = some (.int .i64 x1) ∧ W6.cell? ⟨xb, 1, none⟩ = some (.int .i64 x2) ∧ W6.cell? ⟨xb, 2, none⟩ = some (.int .i64 x3) ∧ W6.cell? ⟨xb, 3, none⟩ = some (.int .i64 x4)) ∧ (W6.cell? ⟨hb, 0, none⟩ = some (.slice a2 L2.length cap2) ∧ W6.cell? ⟨hb, 1, none⟩ = some (.int .i64 l2) ∧ W6.cell? ⟨hb, 2, none⟩ = some (.int .i64 m2) ∧ W6.cell? ⟨hb, 3, none⟩ = some (.int .i64 A2) ∧ W6.cell? ⟨hb, 4, none⟩ = some (.int .i64 B2) ∧ W6.cell? ⟨hb, 5, none⟩ = some (.int .i64 C2) ∧ W6.cell? ⟨hb, 6, none⟩ = some (.int .i64 D2) ∧ W6.cell? ⟨hb, 7, none⟩ = some (.int .i64 o2) ∧ W6.cell? ⟨hb, 8, none⟩ = some (.int .i64 f2))) := yz ⟨⟨(yy HX3).cell 0 _ rfl, (yy HX3).cell 1 _ rfl, (yy HX3).cell 2 _ rfl, (yy HX3).cell 3 _ rfl⟩, ⟨(yy HH3).cell 0 _ rfl, (yy HH3).cell 1 _ rfl, (yy HH3).cell 2 _ rfl, (yy HH3).cell 3 _ rfl, (yy HH3).cell 4 _ rfl, (yy HH3).cell 5 _ rfl, (yy HH3).cell 6 _ rfl, (yy HH3).cell 7 _ rfl, (yy HH3).cell 8 _ rfl⟩⟩
 refine wp_region_held_drew (S := (fun w' => (w'.cell? ⟨xb, 0, none⟩ = some (.int .i64 x1) ∧ w'.cell? ⟨xb, 1, none⟩ = some (.int .i64 x2) ∧ w'.cell? ⟨xb, 2, none⟩ = some (.int .i64 x3) ∧ w'.cell? ⟨xb, 3, none⟩ = some (.int .i64 x4)) ∧ (w'.cell? ⟨hb, 0, none⟩ = some (.slice a2 L2.length cap2) ∧ w'.cell? ⟨hb, 1, none⟩ = some (.int .i64 l2) ∧ w'.cell? ⟨hb, 2, none⟩ = some (.int .i64 m2) ∧ w'.cell? ⟨hb, 3, none⟩ = some (.int .i64 A2) ∧ w'.cell? ⟨hb, 4, none⟩ = some (.int .i64 B2) ∧ w'.cell? ⟨hb, 5, none⟩ = some (.int .i64 C2) ∧ w'.cell? ⟨hb, 6, none⟩ = some (.int .i64 D2) ∧ w'.cell? ⟨hb, 7, none⟩ = some (.int .i64 o2) ∧ w'.cell? ⟨hb, 8, none⟩ = some (.int .i64 f2)))) (by kernel_rfl) (yy HKS0) (fun hHeld => ?_)
 refine ac 0 rfl ?_
 try simp only [Act.put, ah, ai, aj]
 refine ac 1 rfl ?_
 try simp only [Act.put, ah, ai, aj]
 refine ac 2 rfl ?_
 try simp only [Act.put, ah, ai, aj]
 refine ac 3 rfl ?_
 try simp only [Act.put, ah, ai, aj]
 refine ac 4 rfl ?_
 try simp only [Act.put, ah, ai, aj]
 have d9 := (yy HD3).cell 9 _ rfl
 have z9 := (yy HD3).free 9
 have d10 := (yy HD3).cell 10 _ rfl
 have z10 := (yy HD3).free 10
 have d11 := (yy HD3).cell 11 _ rfl
 have z11 := (yy HD3).free 11
 have d12 := (yy HD3).cell 12 _ rfl
 have z12 := (yy HD3).free 12
 refine af 5 rfl fun K hK => ?_
 go_simp
 have hg := qr W6 w.heap.size (.int .i64 x1) (.int .i64 x2) (.int .i64 x3) (.int .i64 x4)
 have HD4 := yz (Blk.drewn (ru (yy HD3) (.int .i64 x1) (.int .i64 x2) (.int .i64 x3) (.int .i64 x4)))
 have HX4 := yz (Blk.drewn (Blk.grown (yy HX3) hg (fun e => by have := Option.some.inj e; omega)))
 have HH4 := yz (Blk.drewn (Blk.grown (yy HH3) hg (fun e => by have := Option.some.inj e; omega)))
 have HG4 := yz (Blk.drewn (Blk.grown (yy HG3) hg (fun e => by have := Option.some.inj e; omega)))
 have HC4' : Hid (az _ B L2 a2 cap2) := yz ((dj (yy HC3) hg (yy HFR2)).kept (Below.refl _ _).drew)
 have HB4' := yz (ak (fY (yy HB3) hg (Nat.le_refl _)) (Below.refl _ _).drew)
 refine hK.out _ _ ⟨⟨(yy HX4).cell 0 _ rfl, (yy HX4).cell 1 _ rfl, (yy HX4).cell 2 _ rfl, (yy HX4).cell 3 _ rfl⟩, ⟨(yy HH4).cell 0 _ rfl, (yy HH4).cell 1 _ rfl, (yy HH4).cell 2 _ rfl, (yy HH4).cell 3 _ rfl, (yy HH4).cell 4 _ rfl, (yy HH4).cell 5 _ rfl, (yy HH4).cell 6 _ rfl, (yy HH4).cell 7 _ rfl, (yy HH4).cell 8 _ rfl⟩⟩ (fun hHeld1 => ?_)
 clear hK K hHeld hg HD3 HX3 HH3 HG3 HC3 HB3 d9 d10 d11 d12 z9 z10 z11 z12
 generalize hW7 : (((((W6.setCell ⟨w.heap.size, 9, none⟩ (.int .i64 x1)).setCell ⟨w.heap.size, 10, none⟩ (.int .i64 x2)).setCell ⟨w.heap.size, 11, none⟩ (.int .i64 x3)).setCell ⟨w.heap.size, 12, none⟩ (.int .i64 x4))).drew = W7 at HD4 HX4 HH4 HG4 HC4' HB4' hHeld1 ⊢
 clear hW7
 have d0 := (yy HD4).cell 0 _ rfl
 have z0 := (yy HD4).free 0
 have d1 := (yy HD4).cell 1 _ rfl
 have z1 := (yy HD4).free 1
 have d2 := (yy HD4).cell 2 _ rfl
 have z2 := (yy HD4).free 2
 have d3 := (yy HD4).cell 3 _ rfl
 have z3 := (yy HD4).free 3
 have d4 := (yy HD4).cell 4 _ rfl
 have z4 := (yy HD4).free 4
 have d5 := (yy HD4).cell 5 _ rfl
 have z5 := (yy HD4).free 5
 have d6 := (yy HD4).cell 6 _ rfl
 have z6 := (yy HD4).free 6
 have d7 := (yy HD4).cell 7 _ rfl
 have z7 := (yy HD4).free 7
 have d8 := (yy HD4).cell 8 _ rfl
 have z8 := (yy HD4).free 8
 refine ac 6 rfl ?_
 try simp only [Act.put, ah, ai, aj]
 refine af 7 rfl fun K hK => ?_
 go_simp
 have HD5 := yz (nf (yy HD4) (.slice a2 L2.length cap2) (.int .i64 l2) (.int .i64 m2) (.int .i64 A2) (.int .i64 B2) (.int .i64 C2) (.int .i64 D2) (.int .i64 o2) (.int .i64 f2))
 have hg := ll W7 w.heap.size (.slice a2 L2.length cap2) (.int .i64 l2) (.int .i64 m2) (.int .i64 A2) (.int .i64 B2) (.int .i64 C2) (.int .i64 D2) (.int .i64 o2) (.int .i64 f2)
 have HX5 := yz (Blk.grown (yy HX4) hg (fun e => by have := Option.some.inj e; omega))
 have HH5 := yz (Blk.grown (yy HH4) hg (fun e => by have := Option.some.inj e; omega))
 have HG5 := yz (Blk.grown (yy HG4) hg (fun e => by have := Option.some.inj e; omega))
 have HC5 : Hid (az _ B L2 a2 cap2) := yz (dj (yy HC4') hg (yy HFR2))
 have HB5 := yz (fY (yy HB4') hg (Nat.le_refl _))
 refine hK.out _ _ ⟨⟨(yy HX5).cell 0 _ rfl, (yy HX5).cell 1 _ rfl, (yy HX5).cell 2 _ rfl, (yy HX5).cell 3 _ rfl⟩, ⟨(yy HH5).cell 0 _ rfl, (yy HH5).cell 1 _ rfl, (yy HH5).cell 2 _ rfl, (yy HH5).cell 3 _ rfl, (yy HH5).cell 4 _ rfl, (yy HH5).cell 5 _ rfl, (yy HH5).cell 6 _ rfl, (yy HH5).cell 7 _ rfl, (yy HH5).cell 8 _ rfl⟩⟩ (fun hHeld => ?_)
 clear hK K hHeld1 hg HD4 HX4 HH4 HG4 HC4' HB4' d0 z0 d1 z1 d2 z2 d3 z3 d4 z4 d5 z5 d6 z6 d7 z7 d8 z8
 refine wpAnyH_done (by kernel_rfl) ?_ _
 clear hHeld
 generalize hW4 : (((((((((W7.setCell ⟨w.heap.size, 0, none⟩ (.slice a2 L2.length cap2)).setCell ⟨w.heap.size, 1, none⟩ (.int .i64 l2)).setCell ⟨w.heap.size, 2, none⟩ (.int .i64 m2)).setCell ⟨w.heap.size, 3, none⟩ (.int .i64 A2)).setCell ⟨w.heap.size, 4, none⟩ (.int .i64 B2)).setCell ⟨w.heap.size, 5, none⟩ (.int .i64 C2)).setCell ⟨w.heap.size, 6, none⟩ (.int .i64 D2)).setCell ⟨w.heap.size, 7, none⟩ (.int .i64 o2)).setCell ⟨w.heap.size, 8, none⟩ (.int .i64 f2)) = W4 at HD5 HX5 HH5 HG5 HC5 HB5 ⊢
 clear hW4
 have HD4 := HD5
 have HKgb := HG5
 have HKxb := HX5
 have HKhb := HH5
 have HC4 := HC5
 have HB4 := HB5
 clear HD5 HG5 HX5 HH5 HC5 HB5
 go_upto_region 5 with fail
 have HSUM : Hid ((ot gc xk yc = 0 ∧ R = ((⟨L2, l2, m2, A2, B2, C2, D2, o2, f2⟩, (x1, x2, x3, x4)), eI)) ∨ (∃ kk : Nat, ot gc xk yc = (kk : Int) ∧ 0 < kk ∧ kk ≤ 1000 ∧ R = ((⟨L, lim, mode, A, B', C, D, coast, fr⟩, (u1, u2, u3, u4)), fR kk))) := yz (by
  by_cases hg : gc = 0
  ·rw [if_pos hg] at HC
   by_cases hx : xk = 0
   ·rw [if_pos hx] at HC
    exact .inl ⟨by unfold ot lR; rw [if_neg (by omega), if_neg (by omega)]; exact yy HYC hx, yy HC⟩
   ·rw [if_neg hx] at HC
    exact .inr ⟨xk.toNat, by unfold ot lR; rw [if_neg (by omega), if_pos hx]; omega, by omega, by omega, yy HC⟩
  ·rw [if_neg hg] at HC
   exact .inr ⟨gc.toNat, by unfold ot; rw [if_pos hg]; omega, by omega, by omega, yy HC⟩)
 clear HC HYC
 have hdl : w.heap.size < W4.heap.size := (yy HD4).lt
 have hlgb : gb < W4.heap.size := (yy HKgb).lt
 have hlxb : xb < W4.heap.size := (yy HKxb).lt
 have hlhb : hb < W4.heap.size := (yy HKhb).lt
 have HKS : Hid (∀ w' : World, Below W4.heap.size W4 w' → (w'.cell? ⟨w.heap.size, 0, none⟩ = some (.slice a2 L2.length cap2) ∧ w'.cell? ⟨w.heap.size, 1, none⟩ = some (.int .i64 l2) ∧ w'.cell? ⟨w.heap.size, 2, none⟩ = some (.int .i64 m2) ∧ w'.cell? ⟨w.heap.size, 3, none⟩ = some (.int .i64 A2) ∧ w'.cell? ⟨w.heap.size, 4, none⟩ = some (.int .i64 B2) ∧ w'.cell? ⟨w.heap.size, 5, none⟩ = some (.int .i64 C2) ∧ w'.cell? ⟨w.heap.size, 6, none⟩ = some (.int .i64 D2) ∧ w'.cell? ⟨w.heap.size, 7, none⟩ = some (.int .i64 o2) ∧ w'.cell? ⟨w.heap.size, 8, none⟩ = some (.int .i64 f2) ∧ w'.cell? ⟨w.heap.size, 9, none⟩ = some (.int .i64 x1) ∧ w'.cell? ⟨w.heap.size, 10, none⟩ = some (.int .i64 x2) ∧ w'.cell? ⟨w.heap.size, 11, none⟩ = some (.int .i64 x3) ∧ w'.cell? ⟨w.heap.size, 12, none⟩ = some (.int .i64 x4)) ∧ w'.cell? ⟨gb, 4, none⟩ = some (.int .i64 gc) ∧ w'.cell? ⟨xb, 4, none⟩ = some (.int .i64 xk) ∧ w'.cell? ⟨hb, 9, none⟩ = some (.int .i64 yc)) := yz (fun w' h => ⟨⟨by rw [h.cell hdl]; exact (yy HD4).cell 0 _ rfl, by rw [h.cell hdl]; exact (yy HD4).cell 1 _ rfl, by rw [h.cell hdl]; exact (yy HD4).cell 2 _ rfl, by rw [h.cell hdl]; exact (yy HD4).cell 3 _ rfl, by rw [h.cell hdl]; exact (yy HD4).cell 4 _ rfl, by rw [h.cell hdl]; exact (yy HD4).cell 5 _ rfl, by rw [h.cell hdl]; exact (yy HD4).cell 6 _ rfl, by rw [h.cell hdl]; exact (yy HD4).cell 7 _ rfl, by rw [h.cell hdl]; exact (yy HD4).cell 8 _ rfl, by rw [h.cell hdl]; exact (yy HD4).cell 9 _ rfl, by rw [h.cell hdl]; exact (yy HD4).cell 10 _ rfl, by rw [h.cell hdl]; exact (yy HD4).cell 11 _ rfl, by rw [h.cell hdl]; exact (yy HD4).cell 12 _ rfl⟩, by rw [h.cell hlgb]; exact (yy HKgb).cell 4 _ rfl, by rw [h.cell hlxb]; exact (yy HKxb).cell 4 _ rfl, by rw [h.cell hlhb]; exact (yy HKhb).cell 9 _ rfl⟩)
 rcases yy HSUM with ⟨hcd, hRR⟩ | ⟨kk, hcd, hk0, hk1, hRR⟩
 ·have HRR := yz hRR
  have cF := fun nb W h => kj gc xk yc nb W h
  rw [hcd] at cF
  clear hRR hcd
  refine wp_region_held_drew (S := (fun w' => (w'.cell? ⟨w.heap.size, 0, none⟩ = some (.slice a2 L2.length cap2) ∧ w'.cell? ⟨w.heap.size, 1, none⟩ = some (.int .i64 l2) ∧ w'.cell? ⟨w.heap.size, 2, none⟩ = some (.int .i64 m2) ∧ w'.cell? ⟨w.heap.size, 3, none⟩ = some (.int .i64 A2) ∧ w'.cell? ⟨w.heap.size, 4, none⟩ = some (.int .i64 B2) ∧ w'.cell? ⟨w.heap.size, 5, none⟩ = some (.int .i64 C2) ∧ w'.cell? ⟨w.heap.size, 6, none⟩ = some (.int .i64 D2) ∧ w'.cell? ⟨w.heap.size, 7, none⟩ = some (.int .i64 o2) ∧ w'.cell? ⟨w.heap.size, 8, none⟩ = some (.int .i64 f2) ∧ w'.cell? ⟨w.heap.size, 9, none⟩ = some (.int .i64 x1) ∧ w'.cell? ⟨w.heap.size, 10, none⟩ = some (.int .i64 x2) ∧ w'.cell? ⟨w.heap.size, 11, none⟩ = some (.int .i64 x3) ∧ w'.cell? ⟨w.heap.size, 12, none⟩ = some (.int .i64 x4)) ∧ w'.cell? ⟨gb, 4, none⟩ = some (.int .i64 gc) ∧ w'.cell? ⟨xb, 4, none⟩ = some (.int .i64 xk) ∧ w'.cell? ⟨hb, 9, none⟩ = some (.int .i64 yc))) (by kernel_rfl) (yy HKS W4 (Below.refl _ _)) (fun hHeld => ?_)
  refine ac 0 rfl ?_
  try simp only [Act.put, ah, ai, aj]
  refine ac 1 rfl ?_
  try simp only [Act.put, ah, ai, aj]
  refine ac 2 rfl ?_
  try simp only [Act.put, ah, ai, aj]
  refine ac 3 rfl ?_
  try simp only [Act.put, ah, ai, aj]
  refine ac 4 rfl ?_
  try simp only [Act.put, ah, ai, aj]
  refine ac 5 rfl ?_
  try simp only [Act.put, ah, ai, aj]
  refine ac 6 rfl ?_
  try simp only [Act.put, ah, ai, aj]
  have HV : Hid (Below W4.heap.size W4 W4.drew) := yz (Below.refl W4.heap.size W4).drew
  obtain ⟨YY, HYY⟩ : ∃ YY, YY = W4.drew := ⟨_, rfl⟩
  rw [← HYY] at HV hHeld ⊢
  clear HYY
  refine ag 7 9 rfl (fun K hK => ?_) rfl fun K hK => ?_
  ·skip
   go_simp
   have HN : Hid (Blk (YY.alloc (.cells #[.int .i64 gc, .int .i64 xk, .int .i64 yc] 2)) YY.heap.size [.int .i64 gc, .int .i64 xk, .int .i64 yc] 2) := yz (ap YY [.int .i64 gc, .int .i64 xk, .int .i64 yc] 2)
   have hy := an YY (.cells #[.int .i64 gc, .int .i64 xk, .int .i64 yc] 2)
   replace HV := yz (ak (yy HV) hy)
   clear hy
   generalize YY.alloc (.cells #[.int .i64 gc, .int .i64 xk, .int .i64 yc] 2) = Y0 at *
   generalize YY.heap.size = nb at *
   refine hK.out _ _ (yy HKS _ (yy HV)) (fun hH1 => ?_)
   clear hK K hHeld
   refine ag 8 9 rfl (fun K hK => ?_) rfl fun K hK => ?_
   ·skip
    go_simp
    refine (cF nb Y0 (yy HN)).mono ?_
    rintro e Y1 ⟨rfl, hx⟩
    replace HV := yz (ak (yy HV) hx)
    clear hx HN
    refine hK.out _ _ (yy HKS _ (yy HV)) (fun hH2 => ?_)
    clear hK K hH1
    refine af 9 rfl fun K hK => ?_
    go_simp
    have HWD : Hid (fS (Y1.alloc (.cells #[.string ⟨#[111, 107]⟩] 9)) Y1.heap.size [eI]) := yz dJ
    have hy := an Y1 (.cells #[.string ⟨#[111, 107]⟩] 9)
    replace HV := yz (ak (yy HV) hy)
    clear hy
    generalize Y1.alloc (.cells #[.string ⟨#[111, 107]⟩] 9) = Y2 at *
    generalize Y1.heap.size = ob at *
    refine hK.out _ _ (yy HKS _ (yy HV)) (fun hH3 => ?_)
    clear hK K hH2
    refine af 10 rfl fun K hK => ?_
    go_simp
    refine (eL a2 L2.length cap2 l2 m2 A2 B2 C2 D2 o2 f2 x1 x2 x3 x4 (some ⟨ob, 0, none⟩) 1 1 Y2).mono ?_
    rintro e Y3 ⟨rfl, hx⟩
    have HV6 := yz (ak (yy HV) hx)
    have HA : Hid (Ans Y3 B (⟨L, lim, mode, A, B', C, D, coast, fr⟩, (u1, u2, u3, u4)) R (.returned (.iface 87 (.agg #[.slice a2 L2.length cap2, .int .i64 l2, .int .i64 m2, .int .i64 A2, .int .i64 B2, .int .i64 C2, .int .i64 D2, .int .i64 o2, .int .i64 f2, .int .i64 x1, .int .i64 x2, .int .i64 x3, .int .i64 x4, .slice (some ⟨ob, 0, none⟩) 1 1])))) := yz (by rw [yy HRR]; exact .inr ⟨a2, cap2, ob, [eI], rfl, ((yy HC4).kept (yy HV)).kept hx, (yy HWD).kept hx, by simp, ge, jB⟩)
    clear hx
    refine hK.out _ _ (yy HKS _ (yy HV6)) (fun hHx => ?_)
    clear hK K hH3
    refine af 11 rfl fun K hK => ?_
    go_simp
    refine hK.out _ _ (yy HKS _ (yy HV6)) (fun hHy => ?_)
    clear hK K hHx
    refine wpAnyH_done (by kernel_rfl) ?_ _
    clear hHy
    go_wp2_with fail
    go_ret
    exact ⟨yy HA, ak (yy HB4) (yy HV6)⟩
   ·skip
    go_simp
    have HWD : Hid (fS (Y0.alloc (.cells #[.string ⟨#[111, 107]⟩] 9)) Y0.heap.size [eI]) := yz dJ
    have hy := an Y0 (.cells #[.string ⟨#[111, 107]⟩] 9)
    replace HV := yz (ak (yy HV) hy)
    replace HN := yz ((yy HN).kept hy)
    clear hy
    generalize Y0.alloc (.cells #[.string ⟨#[111, 107]⟩] 9) = Y1 at *
    generalize Y0.heap.size = ob at *
    refine hK.out _ _ (yy HKS _ (yy HV)) (fun hH4 => ?_)
    clear hK K hH1
    refine af 8 rfl fun K hK => ?_
    go_simp
    refine (cF nb Y1 (yy HN)).mono ?_
    rintro e Y2 ⟨rfl, hx⟩
    replace HV := yz (ak (yy HV) hx)
    replace HWD := yz ((yy HWD).kept hx)
    clear hx HN
    refine hK.out _ _ (yy HKS _ (yy HV)) (fun hH5 => ?_)
    clear hK K hH4
    refine af 10 rfl fun K hK => ?_
    go_simp
    refine (eL a2 L2.length cap2 l2 m2 A2 B2 C2 D2 o2 f2 x1 x2 x3 x4 (some ⟨ob, 0, none⟩) 1 1 Y2).mono ?_
    rintro e Y3 ⟨rfl, hx⟩
    have HV6 := yz (ak (yy HV) hx)
    have HA : Hid (Ans Y3 B (⟨L, lim, mode, A, B', C, D, coast, fr⟩, (u1, u2, u3, u4)) R (.returned (.iface 87 (.agg #[.slice a2 L2.length cap2, .int .i64 l2, .int .i64 m2, .int .i64 A2, .int .i64 B2, .int .i64 C2, .int .i64 D2, .int .i64 o2, .int .i64 f2, .int .i64 x1, .int .i64 x2, .int .i64 x3, .int .i64 x4, .slice (some ⟨ob, 0, none⟩) 1 1])))) := yz (by rw [yy HRR]; exact .inr ⟨a2, cap2, ob, [eI], rfl, ((yy HC4).kept (yy HV)).kept hx, (yy HWD).kept hx, by simp, ge, jB⟩)
    clear hx
    refine hK.out _ _ (yy HKS _ (yy HV6)) (fun hHx => ?_)
    clear hK K hH5
    refine af 11 rfl fun K hK => ?_
    go_simp
    refine hK.out _ _ (yy HKS _ (yy HV6)) (fun hHy => ?_)
    clear hK K hHx
    refine wpAnyH_done (by kernel_rfl) ?_ _
    clear hHy
    go_wp2_with fail
    go_ret
    exact ⟨yy HA, ak (yy HB4) (yy HV6)⟩
  ·skip
   go_simp
   have HWD : Hid (fS (YY.alloc (.cells #[.string ⟨#[111, 107]⟩] 9)) YY.heap.size [eI]) := yz dJ
   have hy := an YY (.cells #[.string ⟨#[111, 107]⟩] 9)
   replace HV := yz (ak (yy HV) hy)
   clear hy
   generalize YY.alloc (.cells #[.string ⟨#[111, 107]⟩] 9) = Y0 at *
   generalize YY.heap.size = ob at *
   refine hK.out _ _ (yy HKS _ (yy HV)) (fun hH6 => ?_)
   clear hK K hHeld
   refine af 7 rfl fun K hK => ?_
   go_simp
   have HN : Hid (Blk (Y0.alloc (.cells #[.int .i64 gc, .int .i64 xk, .int .i64 yc] 2)) Y0.heap.size [.int .i64 gc, .int .i64 xk, .int .i64 yc] 2) := yz (ap Y0 [.int .i64 gc, .int .i64 xk, .int .i64 yc] 2)
   have hy := an Y0 (.cells #[.int .i64 gc, .int .i64 xk, .int .i64 yc] 2)
   replace HV := yz (ak (yy HV) hy)
   replace HWD := yz ((yy HWD).kept hy)
   clear hy
   generalize Y0.alloc (.cells #[.int .i64 gc, .int .i64 xk, .int .i64 yc] 2) = Y1 at *
   generalize Y0.heap.size = nb at *
   refine hK.out _ _ (yy HKS _ (yy HV)) (fun hH7 => ?_)
   clear hK K hH6
   refine af 8 rfl fun K hK => ?_
   go_simp
   refine (cF nb Y1 (yy HN)).mono ?_
   rintro e Y2 ⟨rfl, hx⟩
   replace HV := yz (ak (yy HV) hx)
   replace HWD := yz ((yy HWD).kept hx)
   clear hx HN
   refine hK.out _ _ (yy HKS _ (yy HV)) (fun hH8 => ?_)
   clear hK K hH7
   refine af 10 rfl fun K hK => ?_
   go_simp
   refine (eL a2 L2.length cap2 l2 m2 A2 B2 C2 D2 o2 f2 x1 x2 x3 x4 (some ⟨ob, 0, none⟩) 1 1 Y2).mono ?_
   rintro e Y3 ⟨rfl, hx⟩
   have HV6 := yz (ak (yy HV) hx)
   have HA : Hid (Ans Y3 B (⟨L, lim, mode, A, B', C, D, coast, fr⟩, (u1, u2, u3, u4)) R (.returned (.iface 87 (.agg #[.slice a2 L2.length cap2, .int .i64 l2, .int .i64 m2, .int .i64 A2, .int .i64 B2, .int .i64 C2, .int .i64 D2, .int .i64 o2, .int .i64 f2, .int .i64 x1, .int .i64 x2, .int .i64 x3, .int .i64 x4, .slice (some ⟨ob, 0, none⟩) 1 1])))) := yz (by rw [yy HRR]; exact .inr ⟨a2, cap2, ob, [eI], rfl, ((yy HC4).kept (yy HV)).kept hx, (yy HWD).kept hx, by simp, ge, jB⟩)
   clear hx
   refine hK.out _ _ (yy HKS _ (yy HV6)) (fun hHx => ?_)
   clear hK K hH8
   refine af 11 rfl fun K hK => ?_
   go_simp
   refine hK.out _ _ (yy HKS _ (yy HV6)) (fun hHy => ?_)
   clear hK K hHx
   refine wpAnyH_done (by kernel_rfl) ?_ _
   clear hHy
   go_wp2_with fail
   go_ret
   exact ⟨yy HA, ak (yy HB4) (yy HV6)⟩
 ·have HRR := yz hRR
  have cF := fun nb W h => kj gc xk yc nb W h
  rw [hcd] at cF
  clear hRR hcd
  refine wp_region_held_drew (S := (fun w' => (w'.cell? ⟨w.heap.size, 0, none⟩ = some (.slice a2 L2.length cap2) ∧ w'.cell? ⟨w.heap.size, 1, none⟩ = some (.int .i64 l2) ∧ w'.cell? ⟨w.heap.size, 2, none⟩ = some (.int .i64 m2) ∧ w'.cell? ⟨w.heap.size, 3, none⟩ = some (.int .i64 A2) ∧ w'.cell? ⟨w.heap.size, 4, none⟩ = some (.int .i64 B2) ∧ w'.cell? ⟨w.heap.size, 5, none⟩ = some (.int .i64 C2) ∧ w'.cell? ⟨w.heap.size, 6, none⟩ = some (.int .i64 D2) ∧ w'.cell? ⟨w.heap.size, 7, none⟩ = some (.int .i64 o2) ∧ w'.cell? ⟨w.heap.size, 8, none⟩ = some (.int .i64 f2) ∧ w'.cell? ⟨w.heap.size, 9, none⟩ = some (.int .i64 x1) ∧ w'.cell? ⟨w.heap.size, 10, none⟩ = some (.int .i64 x2) ∧ w'.cell? ⟨w.heap.size, 11, none⟩ = some (.int .i64 x3) ∧ w'.cell? ⟨w.heap.size, 12, none⟩ = some (.int .i64 x4)) ∧ w'.cell? ⟨gb, 4, none⟩ = some (.int .i64 gc) ∧ w'.cell? ⟨xb, 4, none⟩ = some (.int .i64 xk) ∧ w'.cell? ⟨hb, 9, none⟩ = some (.int .i64 yc))) (by kernel_rfl) (yy HKS W4 (Below.refl _ _)) (fun hHeld => ?_)
  refine ac 0 rfl ?_
  try simp only [Act.put, ah, ai, aj]
  refine ac 1 rfl ?_
  try simp only [Act.put, ah, ai, aj]
  refine ac 2 rfl ?_
  try simp only [Act.put, ah, ai, aj]
  refine ac 3 rfl ?_
  try simp only [Act.put, ah, ai, aj]
  refine ac 4 rfl ?_
  try simp only [Act.put, ah, ai, aj]
  refine ac 5 rfl ?_
  try simp only [Act.put, ah, ai, aj]
  refine ac 6 rfl ?_
  try simp only [Act.put, ah, ai, aj]
  have HV : Hid (Below W4.heap.size W4 W4.drew) := yz (Below.refl W4.heap.size W4).drew
  obtain ⟨YY, HYY⟩ : ∃ YY, YY = W4.drew := ⟨_, rfl⟩
  rw [← HYY] at HV hHeld ⊢
  clear HYY
  refine ag 7 9 rfl (fun K hK => ?_) rfl fun K hK => ?_
  ·skip
   go_simp
   have HN : Hid (Blk (YY.alloc (.cells #[.int .i64 gc, .int .i64 xk, .int .i64 yc] 2)) YY.heap.size [.int .i64 gc, .int .i64 xk, .int .i64 yc] 2) := yz (ap YY [.int .i64 gc, .int .i64 xk, .int .i64 yc] 2)
   have hy := an YY (.cells #[.int .i64 gc, .int .i64 xk, .int .i64 yc] 2)
   replace HV := yz (ak (yy HV) hy)
   clear hy
   generalize YY.alloc (.cells #[.int .i64 gc, .int .i64 xk, .int .i64 yc] 2) = Y0 at *
   generalize YY.heap.size = nb at *
   refine hK.out _ _ (yy HKS _ (yy HV)) (fun hH1 => ?_)
   clear hK K hHeld
   refine ag 8 9 rfl (fun K hK => ?_) rfl fun K hK => ?_
   ·skip
    go_simp
    refine (cF nb Y0 (yy HN)).mono ?_
    rintro e Y1 ⟨rfl, hx⟩
    replace HV := yz (ak (yy HV) hx)
    clear hx HN
    refine hK.out _ _ (yy HKS _ (yy HV)) (fun hH2 => ?_)
    clear hK K hH1
    refine af 9 rfl fun K hK => ?_
    go_simp
    have HWD : Hid (fS (Y1.alloc (.cells #[.string ⟨#[111, 107]⟩] 9)) Y1.heap.size [eI]) := yz dJ
    have hy := an Y1 (.cells #[.string ⟨#[111, 107]⟩] 9)
    replace HV := yz (ak (yy HV) hy)
    clear hy
    generalize Y1.alloc (.cells #[.string ⟨#[111, 107]⟩] 9) = Y2 at *
    generalize Y1.heap.size = ob at *
    refine hK.out _ _ (yy HKS _ (yy HV)) (fun hH3 => ?_)
    clear hK K hH2
    refine af 10 rfl fun K hK => ?_
    go_simp
    refine (gp a2 L2.length cap2 l2 m2 A2 B2 C2 D2 o2 f2 x1 x2 x3 x4 (kk : Int) (some ⟨ob, 0, none⟩) 1 1 Y2 (by omega)).mono ?_
    rintro e Y3 ⟨rfl, hx⟩
    have HV6 := yz (ak (yy HV) hx)
    have HA : Hid (Ans Y3 B (⟨L, lim, mode, A, B', C, D, coast, fr⟩, (u1, u2, u3, u4)) R (.returned (.iface 168 (.agg #[.int .i64 (kk : Int)])))) := yz (.inl ⟨kk, hk0, hk1, rfl, yy HRR⟩)
    clear hx
    refine hK.out _ _ (yy HKS _ (yy HV6)) (fun hHx => ?_)
    clear hK K hH3
    refine af 11 rfl fun K hK => ?_
    go_simp
    refine hK.out _ _ (yy HKS _ (yy HV6)) (fun hHy => ?_)
    clear hK K hHx
    refine wpAnyH_done (by kernel_rfl) ?_ _
    clear hHy
    go_wp2_with fail
    go_ret
    exact ⟨yy HA, ak (yy HB4) (yy HV6)⟩
   ·skip
    go_simp
    have HWD : Hid (fS (Y0.alloc (.cells #[.string ⟨#[111, 107]⟩] 9)) Y0.heap.size [eI]) := yz dJ
    have hy := an Y0 (.cells #[.string ⟨#[111, 107]⟩] 9)
    replace HV := yz (ak (yy HV) hy)
    replace HN := yz ((yy HN).kept hy)
    clear hy
    generalize Y0.alloc (.cells #[.string ⟨#[111, 107]⟩] 9) = Y1 at *
    generalize Y0.heap.size = ob at *
    refine hK.out _ _ (yy HKS _ (yy HV)) (fun hH4 => ?_)
    clear hK K hH1
    refine af 8 rfl fun K hK => ?_
    go_simp
    refine (cF nb Y1 (yy HN)).mono ?_
    rintro e Y2 ⟨rfl, hx⟩
    replace HV := yz (ak (yy HV) hx)
    replace HWD := yz ((yy HWD).kept hx)
    clear hx HN
    refine hK.out _ _ (yy HKS _ (yy HV)) (fun hH5 => ?_)
    clear hK K hH4
    refine af 10 rfl fun K hK => ?_
    go_simp
    refine (gp a2 L2.length cap2 l2 m2 A2 B2 C2 D2 o2 f2 x1 x2 x3 x4 (kk : Int) (some ⟨ob, 0, none⟩) 1 1 Y2 (by omega)).mono ?_
    rintro e Y3 ⟨rfl, hx⟩
    have HV6 := yz (ak (yy HV) hx)
    have HA : Hid (Ans Y3 B (⟨L, lim, mode, A, B', C, D, coast, fr⟩, (u1, u2, u3, u4)) R (.returned (.iface 168 (.agg #[.int .i64 (kk : Int)])))) := yz (.inl ⟨kk, hk0, hk1, rfl, yy HRR⟩)
    clear hx
    refine hK.out _ _ (yy HKS _ (yy HV6)) (fun hHx => ?_)
    clear hK K hH5
    refine af 11 rfl fun K hK => ?_
    go_simp
    refine hK.out _ _ (yy HKS _ (yy HV6)) (fun hHy => ?_)
    clear hK K hHx
    refine wpAnyH_done (by kernel_rfl) ?_ _
    clear hHy
    go_wp2_with fail
    go_ret
    exact ⟨yy HA, ak (yy HB4) (yy HV6)⟩
  ·skip
   go_simp
   have HWD : Hid (fS (YY.alloc (.cells #[.string ⟨#[111, 107]⟩] 9)) YY.heap.size [eI]) := yz dJ
   have hy := an YY (.cells #[.string ⟨#[111, 107]⟩] 9)
   replace HV := yz (ak (yy HV) hy)
   clear hy
   generalize YY.alloc (.cells #[.string ⟨#[111, 107]⟩] 9) = Y0 at *
   generalize YY.heap.size = ob at *
   refine hK.out _ _ (yy HKS _ (yy HV)) (fun hH6 => ?_)
   clear hK K hHeld
   refine af 7 rfl fun K hK => ?_
   go_simp
   have HN : Hid (Blk (Y0.alloc (.cells #[.int .i64 gc, .int .i64 xk, .int .i64 yc] 2)) Y0.heap.size [.int .i64 gc, .int .i64 xk, .int .i64 yc] 2) := yz (ap Y0 [.int .i64 gc, .int .i64 xk, .int .i64 yc] 2)
   have hy := an Y0 (.cells #[.int .i64 gc, .int .i64 xk, .int .i64 yc] 2)
   replace HV := yz (ak (yy HV) hy)
   replace HWD := yz ((yy HWD).kept hy)
   clear hy
   generalize Y0.alloc (.cells #[.int .i64 gc, .int .i64 xk, .int .i64 yc] 2) = Y1 at *
   generalize Y0.heap.size = nb at *
   refine hK.out _ _ (yy HKS _ (yy HV)) (fun hH7 => ?_)
   clear hK K hH6
   refine af 8 rfl fun K hK => ?_
   go_simp
   refine (cF nb Y1 (yy HN)).mono ?_
   rintro e Y2 ⟨rfl, hx⟩
   replace HV := yz (ak (yy HV) hx)
   replace HWD := yz ((yy HWD).kept hx)
   clear hx HN
   refine hK.out _ _ (yy HKS _ (yy HV)) (fun hH8 => ?_)
   clear hK K hH7
   refine af 10 rfl fun K hK => ?_
   go_simp
   refine (gp a2 L2.length cap2 l2 m2 A2 B2 C2 D2 o2 f2 x1 x2 x3 x4 (kk : Int) (some ⟨ob, 0, none⟩) 1 1 Y2 (by omega)).mono ?_
   rintro e Y3 ⟨rfl, hx⟩
   have HV6 := yz (ak (yy HV) hx)
   have HA : Hid (Ans Y3 B (⟨L, lim, mode, A, B', C, D, coast, fr⟩, (u1, u2, u3, u4)) R (.returned (.iface 168 (.agg #[.int .i64 (kk : Int)])))) := yz (.inl ⟨kk, hk0, hk1, rfl, yy HRR⟩)
   clear hx
   refine hK.out _ _ (yy HKS _ (yy HV6)) (fun hHx => ?_)
   clear hK K hH8
   refine af 11 rfl fun K hK => ?_
   go_simp
   refine hK.out _ _ (yy HKS _ (yy HV6)) (fun hHy => ?_)
   clear hK K hHx
   refine wpAnyH_done (by kernel_rfl) ?_ _
   clear hHy
   go_wp2_with fail
   go_ret
   exact ⟨yy HA, ak (yy HB4) (yy HV6)⟩
end
end Go.Proofs.YtlleafjdgblhcaaGreatDoor
