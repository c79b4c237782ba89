/- Several texts in one: DtI, DtJ, FnTopA. -/
import Derived.Test.YtdchjcadhlkpfaaGreatDoorQFnTopOwn43
import Derived.Test.YtdchjcadhlkpfaaGreatDoorQFnTopOwn45
import Derived.Test.YtdchjcadhlkpfaaGreatDoorQFnTopOwn42
import Derived.Test.YtdchjcadhlkpfaaGreatDoorQFnTopOwn4
import Derived.Test.YtdchjcadhlkpfaaGreatDoorQFnTopOwn1
namespace Go.Proofs.YtdchjcadhlkpfaaGreatDoor
set_option linter.unusedVariables false
set_option linter.unusedSimpArgs false
set_option maxRecDepth 100000
set_option maxHeartbeats 8000000
section
open Go.RowKit Go.Sort
theorem sD (k : Nat) (hk : k < 7) (args : Array Value) (W : World) : (callFunc (bX k) args).run Tryz.prog W = .ok (.enter (bX k) args) W := by
 rcases nQ hk with rfl | rfl | rfl | rfl | rfl | rfl | rfl <;> kernel_rfl
theorem tD (w : World) (B : Nat) (d : Tk × U4) (a : Option Addr) (cap : Nat) (p : Addr) (l : Ln) (hl : l.k < 7) (hs : l.t.length ≤ 1048576) (hk : ax d.1 = true) (hB : B ≤ w.heap.size) (hC : ay w B d.1.L a cap) (hE : fC p w) :
  Calls Tryz.prog (bX l.k) #[.agg #[.slice a d.1.L.length cap, .int .i64 d.1.lim, .int .i64 d.1.mode, .int .i64 d.1.A, .int .i64 d.1.B, .int .i64 d.1.C, .int .i64 d.1.D, .int .i64 d.1.coast, .int .i64 d.1.fr, .int .i64 d.2.1, .int .i64 d.2.2.1, .int .i64 d.2.2.2.1, .int .i64 d.2.2.2.2], .agg #[.string ⟨l.t.toArray⟩, .int .i64 l.n]] w fun e w' => Ans w' B d (ji d l) e ∧ Below w.heap.size w w' := by
 obtain ⟨t, u⟩ := d
 obtain ⟨k, tl, n⟩ := l
 have hs' : (⟨tl.toArray⟩ : ByteArray).size ≤ 9223372036854775807 := by show tl.toArray.size ≤ _; have : tl.length ≤ 1048576 := hs; simp; omega
 have hl' : k < 7 := hl
 rcases nQ hl' with rfl | rfl | rfl | rfl | rfl | rfl | rfl
 ·exact pR w B t u a cap p _ n hk hB hC hE
 ·exact pG w B t u a cap p _ n hs' hk hB hC hE
 ·exact tB w B t u a cap p _ n hk hB hC hE
 ·exact rB w B t u a cap p _ n hs' hk hB hC hE
 ·exact pd w B t u a cap p _ n hk hB hC hE
 ·exact th w B t u a cap p _ n hk hB hC hE
 ·exact pz w B t u a cap p _ n hk hB hC hE
theorem lY : ∀ (D : List (List UInt8)) (i : Nat) (ls : List Ln), eO i D = .inl ls → ls.length ≤ 40 - i ∧ ∀ l ∈ ls, l.k < 7 ∧ ∃ q ∈ D, l.t.length ≤ q.length
 | [], i, ls, h => by
  cases h
  exact ⟨Nat.zero_le _, fun l hl => by cases hl⟩
 | [q], i, ls, h => by
  have h' : (if q = [] then (.inl [] : List Ln ⊕ Nat) else .inr i) = .inl ls := h
  split at h'
  ·cases h'
   exact ⟨Nat.zero_le _, fun l hl => by cases hl⟩
  ·cases h'
 | q :: r :: s, i, ls, h => by
  unfold eO at h
  split at h
  ·cases h
  ·rename_i l hl
   split at h
   ·cases h
   ·rename_i h40
    split at h
    ·rename_i ls' hls
     cases h
     have ih := lY (r :: s) (i + 1) ls' hls
     have hk := ul hl
     refine ⟨by rw [List.length_cons]; omega, fun x hx => ?_⟩
     rcases List.mem_cons.1 hx with rfl | hx
     ·exact ⟨by omega, q, List.mem_cons_self .., hk.2⟩
     ·obtain ⟨h1, p, hp, h2⟩ := ih.2 x hx
      exact ⟨h1, p, List.mem_cons_of_mem _ hp, h2⟩
    ·cases h
theorem rF {s : ByteArray} (hs : s.size ≤ 1048576) : (cg s).length ≤ 40 ∧ ∀ l ∈ cg s, l.k < 7 ∧ l.t.length ≤ 1048576 := by
 unfold cg
 split
 ·exact ⟨by decide, fun l hl => by cases hl⟩
 ·split
  ·rename_i ls h
   have := lY _ _ _ h
   refine ⟨by omega, fun l hl => ?_⟩
   obtain ⟨h1, q, hq, h2⟩ := this.2 l hl
   have h3 := eX hq
   rw [cV] at h3
   exact ⟨h1, by omega⟩
  ·exact ⟨by decide, fun l hl => by cases hl⟩
theorem uB (W : World) (a : Option Addr) (n c : Nat) (i1 i2 i3 i4 i5 i6 i7 i8 i9 : Int) : (Instr.field 47 (.agg #[.slice a n c, .int .i64 i1, .int .i64 i2, .int .i64 i3, .int .i64 i4, .int .i64 i5, .int .i64 i6, .int .i64 i7, .int .i64 i8, .int .i64 i9]) 0).run Tryz.prog W = .ok (.agg #[.slice a n c, .int .i64 i1, .int .i64 i2, .int .i64 i3, .int .i64 i4, .int .i64 i5, .int .i64 i6, .int .i64 i7, .int .i64 i8]) W := by kernel_rfl
theorem jQ {W : World} {b : Nat} {v0 v1 v2 v3 v4 v5 v6 v7 v8 v9 v10 v11 v12 : Value} {t : TypeId} (h : Blk W b [v0, v1, v2, v3, v4, v5, v6, v7, v8, v9, v10, v11, v12] t) (x0 x1 x2 x3 x4 x5 x6 x7 x8 x9 x10 x11 x12 : Value) : Blk (((((((((((((W.setCell ⟨b, 0, none⟩ x0).setCell ⟨b, 1, none⟩ x1).setCell ⟨b, 2, none⟩ x2).setCell ⟨b, 3, none⟩ x3).setCell ⟨b, 4, none⟩ x4).setCell ⟨b, 5, none⟩ x5).setCell ⟨b, 6, none⟩ x6).setCell ⟨b, 7, none⟩ x7).setCell ⟨b, 8, none⟩ x8).setCell ⟨b, 9, none⟩ x9).setCell ⟨b, 10, none⟩ x10).setCell ⟨b, 11, none⟩ x11).setCell ⟨b, 12, none⟩ x12) b [x0, x1, x2, x3, x4, x5, x6, x7, x8, x9, x10, x11, x12] t := (Blk.set (Blk.set (Blk.set (Blk.set (Blk.set (Blk.set (Blk.set (Blk.set (Blk.set (Blk.set (Blk.set (Blk.set (Blk.set h 0 x0) 1 x1) 2 x2) 3 x3) 4 x4) 5 x5) 6 x6) 7 x7) 8 x8) 9 x9) 10 x10) 11 x11) 12 x12)
theorem eJ (W : World) (b : Nat) (x0 x1 x2 x3 x4 x5 x6 x7 x8 x9 x10 x11 x12 : Value) : W.grownBy (((((((((((((W.setCell ⟨b, 0, none⟩ x0).setCell ⟨b, 1, none⟩ x1).setCell ⟨b, 2, none⟩ x2).setCell ⟨b, 3, none⟩ x3).setCell ⟨b, 4, none⟩ x4).setCell ⟨b, 5, none⟩ x5).setCell ⟨b, 6, none⟩ x6).setCell ⟨b, 7, none⟩ x7).setCell ⟨b, 8, none⟩ x8).setCell ⟨b, 9, none⟩ x9).setCell ⟨b, 10, none⟩ x10).setCell ⟨b, 11, none⟩ x11).setCell ⟨b, 12, none⟩ x12) (some b) := (aE (aE (aE (aE (aE (aE (aE (aE (aE (aE (aE (aE (aE (eF (Below.refl _ _)) 0 _) 1 _) 2 _) 3 _) 4 _) 5 _) 6 _) 7 _) 8 _) 9 _) 10 _) 11 _) 12 _)
theorem vI (T : Array Value) (X : World) (b : Nat) (v0 v1 v2 v3 v4 v5 v6 v7 v8 v9 v10 v11 v12 : Value) (hT : T.getD 0 undef = .pointer (some ⟨b, 0, none⟩)) (h : Blk X b [v0, v1, v2, v3, v4, v5, v6, v7, v8, v9, v10, v11, v12] 61) : (results Tryz.f23 T).run Tryz.prog X = .ok (.agg #[v0, v1, v2, v3, v4, v5, v6, v7, v8, v9, v10, v11, v12]) X := by
 obtain ⟨h0, h1, h2, h3, h4, h5, h6, h7, h8, h9, h10, h11, h12⟩ := sU (h)
 simp only [Array.getD_eq_getD_getElem?] at hT
 simp [results, Tryz.results23, go_sem, hT, h0, h1, h2, h3, h4, h5, h6, h7, h8, h9, h10, h11, h12]
theorem nu (p : Addr) (w : World) (hE : fC p w) :
  Calls Tryz.prog 23 #[] w fun e w' => (∃ a cap, e = .returned (.agg #[.slice a cw.1.L.length cap, .int .i64 cw.1.lim, .int .i64 cw.1.mode, .int .i64 cw.1.A, .int .i64 cw.1.B, .int .i64 cw.1.C, .int .i64 cw.1.D, .int .i64 cw.1.coast, .int .i64 cw.1.fr, .int .i64 cw.2.1, .int .i64 cw.2.2.1, .int .i64 cw.2.2.2.1, .int .i64 cw.2.2.2.2]) ∧ ay w' w.heap.size cw.1.L a cap) ∧ Below w.heap.size w w' := by
 have H0 : Hid (cw = (kl jl 2, (1, 0, 0, 0))) := yz rfl
 have HZ := yz (an w (.cells #[.slice none 0 0, .int .i64 0, .int .i64 0, .int .i64 0, .int .i64 0, .int .i64 0, .int .i64 0, .int .i64 0, .int .i64 0, .int .i64 0, .int .i64 0, .int .i64 0, .int .i64 0] 61))
 have HD := yz (au w [.slice none 0 0, .int .i64 0, .int .i64 0, .int .i64 0, .int .i64 0, .int .i64 0, .int .i64 0, .int .i64 0, .int .i64 0, .int .i64 0, .int .i64 0, .int .i64 0, .int .i64 0] 61)
 have HE := yz (hE.kept (yy HZ))
 have cN : Hid (∀ W : World, aW p W → Calls Tryz.prog 41 #[.slice (some ⟨W.heap.size, 0, none⟩) 6 6, .int .i64 2] (W.alloc fB) fun e w' => qP w' (W.alloc fB).heap.size (kl jl 2) (mp jl 2) e ∧ Below (W.alloc fB).heap.size (W.alloc fB) w') := yz (fun W hW => od jl 2 W.heap.size 0 6 p (W.alloc fB) (by decide) (by decide) (by decide) (hW.kept (an W fB)) (rv (vh W)))
 generalize mp jl 2 = c0 at *
 obtain ⟨t0, ht0⟩ : ∃ t0, kl jl 2 = t0 := ⟨_, rfl⟩
 rw [ht0] at cN H0
 clear ht0
 obtain ⟨L0, i1, i2, i3, i4, i5, i6, i7, i8⟩ := t0
 rw [yy H0]
 dsimp only
 clear hE
 go_enter Tryz.func23, Tryz.ntmps23
 go_upto_region 1 with fail
 generalize w.alloc (.cells #[.slice none 0 0, .int .i64 0, .int .i64 0, .int .i64 0, .int .i64 0, .int .i64 0, .int .i64 0, .int .i64 0, .int .i64 0, .int .i64 0, .int .i64 0, .int .i64 0, .int .i64 0] 61) = W at *
 have hft := fun W2 a2 cap2 => uB W2 a2 L0.length cap2 i1 i2 i3 i4 i5 i6 i7 i8 c0
 go_wp2_with fail
 refine (nz W).mono ?_
 rintro e W1 ⟨rfl, rfl⟩
 go_wp2_with fail
 refine ((yy cN) W (yy HE).1).mono ?_
 rintro e W2 ⟨⟨a2, cap2, rfl, hC⟩, hx⟩
 have hx' := ak (an W fB) hx
 have HC2 := yz (eS hC (show w.heap.size ≤ (W.alloc fB).heap.size by have := (yy HZ).size; simp; omega))
 have HD2 := yz ((yy HD).kept hx')
 have HB2 := yz (ak (yy HZ) hx')
 have HF2 : Hid (∀ x, a2 = some x → x.block ≠ w.heap.size) := yz (fun x e => by have h1 := (dD hC x e).1; have h2 := (yy HD).lt; have h3 := (an W fB).size; omega)
 clear hC hx hx' HD HZ cN HE
 replace hft := hft W2 a2 cap2
 obtain ⟨d0, d1, d2, d3, d4, d5, d6, d7, d8, d9, d10, d11, d12⟩ : W2.cell? ⟨w.heap.size, 0, none⟩ = some (.slice none 0 0) ∧ W2.cell? ⟨w.heap.size, 1, none⟩ = some (.int .i64 0) ∧ W2.cell? ⟨w.heap.size, 2, none⟩ = some (.int .i64 0) ∧ W2.cell? ⟨w.heap.size, 3, none⟩ = some (.int .i64 0) ∧ W2.cell? ⟨w.heap.size, 4, none⟩ = some (.int .i64 0) ∧ W2.cell? ⟨w.heap.size, 5, none⟩ = some (.int .i64 0) ∧ W2.cell? ⟨w.heap.size, 6, none⟩ = some (.int .i64 0) ∧ W2.cell? ⟨w.heap.size, 7, none⟩ = some (.int .i64 0) ∧ W2.cell? ⟨w.heap.size, 8, none⟩ = some (.int .i64 0) ∧ W2.cell? ⟨w.heap.size, 9, none⟩ = some (.int .i64 0) ∧ W2.cell? ⟨w.heap.size, 10, none⟩ = some (.int .i64 0) ∧ W2.cell? ⟨w.heap.size, 11, none⟩ = some (.int .i64 0) ∧ W2.cell? ⟨w.heap.size, 12, none⟩ = some (.int .i64 0) := ⟨(yy HD2).cell 0 _ rfl, (yy HD2).cell 1 _ rfl, (yy HD2).cell 2 _ rfl, (yy HD2).cell 3 _ rfl, (yy HD2).cell 4 _ rfl, (yy HD2).cell 5 _ rfl, (yy HD2).cell 6 _ rfl, (yy HD2).cell 7 _ rfl, (yy HD2).cell 8 _ rfl, (yy HD2).cell 9 _ rfl, (yy HD2).cell 10 _ rfl, (yy HD2).cell 11 _ rfl, (yy HD2).cell 12 _ rfl⟩
 obtain ⟨z0, z1, z2, z3, z4, z5, z6, z7, z8, z9, z10, z11, z12⟩ : W2.frozen? ⟨w.heap.size, 0, none⟩ = false ∧ W2.frozen? ⟨w.heap.size, 1, none⟩ = false ∧ W2.frozen? ⟨w.heap.size, 2, none⟩ = false ∧ W2.frozen? ⟨w.heap.size, 3, none⟩ = false ∧ W2.frozen? ⟨w.heap.size, 4, none⟩ = false ∧ W2.frozen? ⟨w.heap.size, 5, none⟩ = false ∧ W2.frozen? ⟨w.heap.size, 6, none⟩ = false ∧ W2.frozen? ⟨w.heap.size, 7, none⟩ = false ∧ W2.frozen? ⟨w.heap.size, 8, none⟩ = false ∧ W2.frozen? ⟨w.heap.size, 9, none⟩ = false ∧ W2.frozen? ⟨w.heap.size, 10, none⟩ = false ∧ W2.frozen? ⟨w.heap.size, 11, none⟩ = false ∧ W2.frozen? ⟨w.heap.size, 12, none⟩ = false := ⟨(yy HD2).free 0, (yy HD2).free 1, (yy HD2).free 2, (yy HD2).free 3, (yy HD2).free 4, (yy HD2).free 5, (yy HD2).free 6, (yy HD2).free 7, (yy HD2).free 8, (yy HD2).free 9, (yy HD2).free 10, (yy HD2).free 11, (yy HD2).free 12⟩
 go_wp2_with fail
 refine bodyPost_ret (v := .agg #[.slice a2 L0.length cap2, .int .i64 i1, .int .i64 i2, .int .i64 i3, .int .i64 i4, .int .i64 i5, .int .i64 i6, .int .i64 i7, .int .i64 i8, .int .i64 1, .int .i64 0, .int .i64 0, .int .i64 0]) (vI _ _ w.heap.size _ _ _ _ _ _ _ _ _ _ _ _ _ rfl (jQ (yy HD2) (.slice a2 L0.length cap2) (.int .i64 i1) (.int .i64 i2) (.int .i64 i3) (.int .i64 i4) (.int .i64 i5) (.int .i64 i6) (.int .i64 i7) (.int .i64 i8) (.int .i64 1) (.int .i64 0) (.int .i64 0) (.int .i64 0))) rfl ⟨⟨a2, cap2, rfl, ?_⟩, ?_⟩
 ·exact dv (yy HC2) (eJ W2 w.heap.size (.slice a2 L0.length cap2) (.int .i64 i1) (.int .i64 i2) (.int .i64 i3) (.int .i64 i4) (.int .i64 i5) (.int .i64 i6) (.int .i64 i7) (.int .i64 i8) (.int .i64 1) (.int .i64 0) (.int .i64 0) (.int .i64 0)) (yy HF2)
 ·exact dz (yy HB2) (eJ W2 w.heap.size (.slice a2 L0.length cap2) (.int .i64 i1) (.int .i64 i2) (.int .i64 i3) (.int .i64 i4) (.int .i64 i5) (.int .i64 i6) (.int .i64 i7) (.int .i64 i8) (.int .i64 1) (.int .i64 0) (.int .i64 0) (.int .i64 0)) (Nat.le_refl _)
def qB (d : Tk × U4) (ls : List Ln) : (Tk × U4) × ByteArray := ls.foldl stD (d, ⟨#[]⟩)
theorem rl {d : Tk × U4} {ls : List Ln} {k : Nat} {l : Ln} (h : ls[k]? = some l) : qB d (ls.take (k + 1)) = stD (qB d (ls.take k)) l := by
 unfold qB
 rw [List.take_add_one, h, List.foldl_append]
 rfl
theorem lV : ∀ (L : List Ln) (k : Nat) (l : Ln), L[k]? = some l → (dp L)[3 * k]? = some (fnV (bX l.k)) ∧ (dp L)[3 * k + 1]? = some (co l.t) ∧ (dp L)[3 * k + 2]? = some (.int .i64 l.n)
 | [], k, l, h => by cases h
 | x :: r, 0, l, h => by
  cases h
  exact ⟨rfl, rfl, rfl⟩
 | x :: r, k + 1, l, h => by
  have ih := lV r k l h
  have e : dp (x :: r) = [fnV (bX x.k), co x.t, .int .i64 x.n] ++ dp r := rfl
  rw [e, List.getElem?_append_right (by show 3 ≤ _; omega), List.getElem?_append_right (by show 3 ≤ _; omega), List.getElem?_append_right (by show 3 ≤ _; omega)]
  refine ⟨?_, ?_, ?_⟩
  ·rw [show 3 * (k + 1) - List.length [fnV (bX x.k), co x.t, .int .i64 x.n] = 3 * k by show 3 * (k + 1) - 3 = _; omega]; exact ih.1
  ·rw [show 3 * (k + 1) + 1 - List.length [fnV (bX x.k), co x.t, .int .i64 x.n] = 3 * k + 1 by show 3 * (k + 1) + 1 - 3 = _; omega]; exact ih.2.1
  ·rw [show 3 * (k + 1) + 2 - List.length [fnV (bX x.k), co x.t, .int .i64 x.n] = 3 * k + 2 by show 3 * (k + 1) + 2 - 3 = _; omega]; exact ih.2.2
theorem tO {w : World} {B n c : Nat} {va : Option Addr} {ls : List Ln} (h : w.ownsRow B 92 3 (.slice va n c) ls.length (dp ls)) (hp : 0 < ls.length) : ∃ g, va = some ⟨g, 0, none⟩ ∧ n = ls.length ∧ g < w.heap.size ∧ ∀ k l, ls[k]? = some l → w.cell? ⟨g, k * 3, none⟩ = some (fnV (bX l.k)) ∧ w.cell? ⟨g, k * 3 + 1, none⟩ = some (co l.t) ∧ w.cell? ⟨g, k * 3 + 2, none⟩ = some (.int .i64 l.n) := by
 rcases h.2 with ⟨h1, h0⟩ | ⟨g, cap, cur, e, hb, hg, h1, h2, h3, h4⟩
 ·omega
 ·injection e with e1 e2 e3
  refine ⟨g, e1, e2, (Array.getElem?_eq_some_iff.1 hg).1, fun k l hk => ?_⟩
  have hkl : k < ls.length := (List.getElem?_eq_some_iff.1 hk).1
  have ha := lV ls k l hk
  have hc : ∀ j v, j < 3 * ls.length → (dp ls)[j]? = some v → w.cell? ⟨g, j, none⟩ = some v := fun j v hj hv => by
   rw [cell_of_row w g j cur _ _ hg]
   rw [← h4, List.getElem?_take, if_pos (by rw [Nat.mul_comm] at hj; exact hj)] at hv
   simpa using hv
  rw [Nat.mul_comm k 3]
  exact ⟨hc _ _ (by omega) ha.1, hc _ _ (by omega) ha.2.1, hc _ _ (by omega) ha.2.2⟩
structure pO (w : World) (B : Nat) (wr : World) (d : Tk × U4) (a : Option Addr) (cap : Nat) : Prop where
 blk : Blk wr w.heap.size [.slice a d.1.L.length cap, .int .i64 d.1.lim, .int .i64 d.1.mode, .int .i64 d.1.A, .int .i64 d.1.B, .int .i64 d.1.C, .int .i64 d.1.D, .int .i64 d.1.coast, .int .i64 d.1.fr, .int .i64 d.2.1, .int .i64 d.2.2.1, .int .i64 d.2.2.2.1, .int .i64 d.2.2.2.2] 61
 sky : ay wr B d.1.L a cap
 bel : Below w.heap.size w wr
theorem pO.kept {w wr w2 : World} {B : Nat} {d : Tk × U4} {a : Option Addr} {cap : Nat} (h : pO w B wr d a cap) (hx : Below wr.heap.size wr w2) : pO w B w2 d a cap := ⟨h.blk.kept hx, h.sky.kept hx, ak h.bel hx⟩
theorem tP {w W : World} {B : Nat} {d d2 : Tk × U4} {a a2 : Option Addr} {cap cap2 : Nat} (h : pO w B W d a cap) (hC : ay W B d2.1.L a2 cap2) : pO w B (((((((((((((W.setCell ⟨w.heap.size, 0, none⟩ (.slice a2 d2.1.L.length cap2)).setCell ⟨w.heap.size, 1, none⟩ (.int .i64 d2.1.lim)).setCell ⟨w.heap.size, 2, none⟩ (.int .i64 d2.1.mode)).setCell ⟨w.heap.size, 3, none⟩ (.int .i64 d2.1.A)).setCell ⟨w.heap.size, 4, none⟩ (.int .i64 d2.1.B)).setCell ⟨w.heap.size, 5, none⟩ (.int .i64 d2.1.C)).setCell ⟨w.heap.size, 6, none⟩ (.int .i64 d2.1.D)).setCell ⟨w.heap.size, 7, none⟩ (.int .i64 d2.1.coast)).setCell ⟨w.heap.size, 8, none⟩ (.int .i64 d2.1.fr)).setCell ⟨w.heap.size, 9, none⟩ (.int .i64 d2.2.1)).setCell ⟨w.heap.size, 10, none⟩ (.int .i64 d2.2.2.1)).setCell ⟨w.heap.size, 11, none⟩ (.int .i64 d2.2.2.2.1)).setCell ⟨w.heap.size, 12, none⟩ (.int .i64 d2.2.2.2.2)) d2 a2 cap2 :=
 ⟨jQ h.blk (.slice a2 d2.1.L.length cap2) (.int .i64 d2.1.lim) (.int .i64 d2.1.mode) (.int .i64 d2.1.A) (.int .i64 d2.1.B) (.int .i64 d2.1.C) (.int .i64 d2.1.D) (.int .i64 d2.1.coast) (.int .i64 d2.1.fr) (.int .i64 d2.2.1) (.int .i64 d2.2.2.1) (.int .i64 d2.2.2.2.1) (.int .i64 d2.2.2.2.2), World.ownsRow.kept hC (eJ W w.heap.size (.slice a2 d2.1.L.length cap2) (.int .i64 d2.1.lim) (.int .i64 d2.1.mode) (.int .i64 d2.1.A) (.int .i64 d2.1.B) (.int .i64 d2.1.C) (.int .i64 d2.1.D) (.int .i64 d2.1.coast) (.int .i64 d2.1.fr) (.int .i64 d2.2.1) (.int .i64 d2.2.2.1) (.int .i64 d2.2.2.2.1) (.int .i64 d2.2.2.2.2)) (uh hC h.blk (by decide)), dz h.bel (eJ W w.heap.size (.slice a2 d2.1.L.length cap2) (.int .i64 d2.1.lim) (.int .i64 d2.1.mode) (.int .i64 d2.1.A) (.int .i64 d2.1.B) (.int .i64 d2.1.C) (.int .i64 d2.1.D) (.int .i64 d2.1.coast) (.int .i64 d2.1.fr) (.int .i64 d2.2.1) (.int .i64 d2.2.2.1) (.int .i64 d2.2.2.2.1) (.int .i64 d2.2.2.2.2)) (Nat.le_refl _)⟩
theorem rL (w : World) (B B3 : Nat) (d : Tk × U4) (a : Option Addr) (cap : Nat) (p : Addr) (ls : List Ln) (va : Option Addr) (n c3 : Nat) (hls : ∀ l ∈ ls, l.k < 7 ∧ l.t.length ≤ 1048576) (hn : ls.length ≤ 40) (hrow : w.ownsRow B3 92 3 (.slice va n c3) ls.length (dp ls)) (hk : ax d.1 = true) (hB : B ≤ w.heap.size) (hC : ay w B d.1.L a cap) (hE : fC p w) :
  Calls Tryz.prog 24 #[.agg #[.slice a d.1.L.length cap, .int .i64 d.1.lim, .int .i64 d.1.mode, .int .i64 d.1.A, .int .i64 d.1.B, .int .i64 d.1.C, .int .i64 d.1.D, .int .i64 d.1.coast, .int .i64 d.1.fr, .int .i64 d.2.1, .int .i64 d.2.2.1, .int .i64 d.2.2.2.1, .int .i64 d.2.2.2.2], .slice va n c3] w fun e w' => e = .returned (.string (qB d ls).2) ∧ Below w.heap.size w w' := by
 have hnn : n = ls.length := by
  rcases hrow.2 with ⟨h1, h0⟩ | ⟨g, cp, cur, e, _⟩
  ·injection h1 with _ e2 _
   omega
  ·injection e with _ e2 _
 have HLA := yz (fun h => tO hrow h)
 have HLS := yz hls
 have HE := yz hE
 have HZ := an w (.cells #[.slice a d.1.L.length cap, .int .i64 d.1.lim, .int .i64 d.1.mode, .int .i64 d.1.A, .int .i64 d.1.B, .int .i64 d.1.C, .int .i64 d.1.D, .int .i64 d.1.coast, .int .i64 d.1.fr, .int .i64 d.2.1, .int .i64 d.2.2.1, .int .i64 d.2.2.2.1, .int .i64 d.2.2.2.2] 61)
 have HST0 : Hid (pO w B (w.alloc (.cells #[.slice a d.1.L.length cap, .int .i64 d.1.lim, .int .i64 d.1.mode, .int .i64 d.1.A, .int .i64 d.1.B, .int .i64 d.1.C, .int .i64 d.1.D, .int .i64 d.1.coast, .int .i64 d.1.fr, .int .i64 d.2.1, .int .i64 d.2.2.1, .int .i64 d.2.2.2.1, .int .i64 d.2.2.2.2] 61)) d a cap) := yz ⟨au w _ _, hC.kept HZ, HZ⟩
 subst hnn
 clear hrow hls hE hC HZ
 go_enter Tryz.func24, Tryz.ntmps24
 go_upto_region 1 with fail
 generalize w.alloc (.cells #[.slice a d.1.L.length cap, .int .i64 d.1.lim, .int .i64 d.1.mode, .int .i64 d.1.A, .int .i64 d.1.B, .int .i64 d.1.C, .int .i64 d.1.D, .int .i64 d.1.coast, .int .i64 d.1.fr, .int .i64 d.2.1, .int .i64 d.2.2.1, .int .i64 d.2.2.2.1, .int .i64 d.2.2.2.2] 61) = W0 at *
 go_wp2_with fail
 go_loopw [5, 13] (fun tv iv wr => ∃ (k : Nat) (d' : Tk × U4) (tx : ByteArray) (a' : Option Addr) (cap' : Nat), iv = .int .i64 k ∧ k ≤ ls.length ∧ tv = .string tx ∧ Hid (qB d (ls.take k) = (d', tx)) ∧ Hid (ax d'.1 = true) ∧ tx.size ≤ 71 * k ∧ Hid (pO w B wr d' a' cap')) (fun _ iv _ => ls.length - (intOf iv).toNat)
 case atStart => exact ⟨0, d, ⟨#[]⟩, a, cap, rfl, Nat.zero_le _, rfl, yz rfl, yz hk, by decide, HST0⟩
 case round =>
  clear HST0
  obtain ⟨k, d', tx, a', cap', rfl, hkn, rfl, HR, HK, hsz, HS⟩ := hrel
  by_cases hkl : k < ls.length
  ·have hkl' : (k : Int) < (ls.length : Int) := by omega
   obtain ⟨l, hl⟩ : ∃ l, ls[k]? = some l := ⟨_, List.getElem?_eq_getElem hkl⟩
   obtain ⟨g, rfl, _, hg, hcs⟩ := (yy HLA) (by omega)
   obtain ⟨c0, c1, c2⟩ := hcs k l hl
   have hlm := yy HLS l (List.mem_of_getElem? hl)
   rw [← (yy HS).bel.cell (p := ⟨g, k * 3, none⟩) hg] at c0
   rw [← (yy HS).bel.cell (p := ⟨g, k * 3 + 1, none⟩) hg] at c1
   rw [← (yy HS).bel.cell (p := ⟨g, k * 3 + 2, none⟩) hg] at c2
   have HRT := yz (rl (d := d) hl)
   clear hl hcs hg
   unfold fnV at c0
   unfold co at c1
   have cF := sD l.k hlm.1
   have cD := yz (fun (W : World) hB' h1 h2 => tD W B d' a' cap' p l hlm.1 hlm.2 (yy HK) hB' h1 h2)
   have hz := py (dF (yy HK)) l
   have HK2 := yz (oX (yy HK) l)
   obtain ⟨tb, htb⟩ : ∃ tb : ByteArray, (⟨l.t.toArray⟩ : ByteArray) = tb := ⟨_, rfl⟩
   obtain ⟨f, hf⟩ : ∃ f, bX l.k = f := ⟨_, rfl⟩
   rw [htb] at c1 cD
   rw [hf] at c0 cD cF
   clear htb hf
   have Z1 := an wr (.cells #[.func (.func f) #[] #[], .string tb, .int .i64 l.n] 92)
   have HX := yz (au wr [.func (.func f) #[] #[], .string tb, .int .i64 l.n] 92)
   have HS1 := yz ((yy HS).kept Z1)
   unfold stD at HRT
   rw [yy HR] at HRT
   dsimp only at HRT
   generalize ji d' l = R at *
   clear Z1
   go_upto_region 5 with fail
   generalize wr.alloc (.cells #[.func (.func f) #[] #[], .string tb, .int .i64 l.n] 92) = W1 at *
   generalize wr.heap.size = xb at *
   obtain ⟨x0, x1, x2⟩ := jD (yy HX)
   obtain ⟨d0, d1, d2, d3, d4, d5, d6, d7, d8, d9, d10, d11, d12⟩ : W1.cell? ⟨w.heap.size, 0, none⟩ = some (.slice a' d'.1.L.length cap') ∧ W1.cell? ⟨w.heap.size, 1, none⟩ = some (.int .i64 d'.1.lim) ∧ W1.cell? ⟨w.heap.size, 2, none⟩ = some (.int .i64 d'.1.mode) ∧ W1.cell? ⟨w.heap.size, 3, none⟩ = some (.int .i64 d'.1.A) ∧ W1.cell? ⟨w.heap.size, 4, none⟩ = some (.int .i64 d'.1.B) ∧ W1.cell? ⟨w.heap.size, 5, none⟩ = some (.int .i64 d'.1.C) ∧ W1.cell? ⟨w.heap.size, 6, none⟩ = some (.int .i64 d'.1.D) ∧ W1.cell? ⟨w.heap.size, 7, none⟩ = some (.int .i64 d'.1.coast) ∧ W1.cell? ⟨w.heap.size, 8, none⟩ = some (.int .i64 d'.1.fr) ∧ W1.cell? ⟨w.heap.size, 9, none⟩ = some (.int .i64 d'.2.1) ∧ W1.cell? ⟨w.heap.size, 10, none⟩ = some (.int .i64 d'.2.2.1) ∧ W1.cell? ⟨w.heap.size, 11, none⟩ = some (.int .i64 d'.2.2.2.1) ∧ W1.cell? ⟨w.heap.size, 12, none⟩ = some (.int .i64 d'.2.2.2.2) := ⟨(yy HS1).blk.cell 0 _ rfl, (yy HS1).blk.cell 1 _ rfl, (yy HS1).blk.cell 2 _ rfl, (yy HS1).blk.cell 3 _ rfl, (yy HS1).blk.cell 4 _ rfl, (yy HS1).blk.cell 5 _ rfl, (yy HS1).blk.cell 6 _ rfl, (yy HS1).blk.cell 7 _ rfl, (yy HS1).blk.cell 8 _ rfl, (yy HS1).blk.cell 9 _ rfl, (yy HS1).blk.cell 10 _ rfl, (yy HS1).blk.cell 11 _ rfl, (yy HS1).blk.cell 12 _ rfl⟩
   go_wp2_with fail
   refine ((yy cD) W1 (Nat.le_trans hB (yy HS1).bel.size) (yy HS1).sky ((yy HE).kept (yy HS1).bel)).mono ?_
   rintro e W2 ⟨hA, hx⟩
   have HS2 := yz ((yy HS1).kept hx)
   clear hx x0 x1 x2 d0 d1 d2 d3 d4 d5 d6 d7 d8 d9 d10 d11 d12 cD cF HX HS1 c0 c1 c2 HS
   have hjx : ∀ (W : World) (x : ByteArray), x.size ≤ 100000 → Calls Tryz.prog 43 #[.string x, .string ⟨#[10]⟩] W fun e w' => e = .returned (.string (x ++ ⟨#[10]⟩)) ∧ Below W.heap.size W w' := fun W x h => eQ x ⟨#[10]⟩ W h (by decide)
   rcases hA with ⟨m, hm0, hm1, rfl, hRe⟩ | ⟨a2, cap2, wb, xs, rfl, hC2, hW2, hx4, hxs, hj⟩
   ·have cT := yz (oc m W2 hm1 ((yy HE).kept (yy HS2).bel).2)
    have hmt : ∀ W : World, (method 402 178 (.agg #[.int .i64 (m : Int)]) "loop.example/g00577/impl.text").run Tryz.prog W = .ok (231, .agg #[.int .i64 (m : Int)]) W := fun _ => by kernel_rfl
    have hta : ∀ W : World, (Instr.typeAssert (.iface 178 (.agg #[.int .i64 (m : Int)])) 96 99 true).run Tryz.prog W = .ok (.tuple #[.agg #[.slice none 0 0, .int .i64 0, .int .i64 0, .int .i64 0, .int .i64 0, .int .i64 0, .int .i64 0, .int .i64 0, .int .i64 0, .int .i64 0, .int .i64 0, .int .i64 0, .int .i64 0, .slice none 0 0], .bool false]) W := fun _ => by kernel_rfl
    rw [hRe] at HRT hz HK2
    dsimp only at HRT hz HK2
    clear hRe
    generalize ew m = et at *
    have cJ1 := yz (fun W => hjx W et (by omega))
    have hz2 : (et ++ ⟨#[10]⟩).size = et.size + 1 := by rw [ByteArray.size_append]; rfl
    have cJ2 := yz (fun W => eQ tx (et ++ ⟨#[10]⟩) W (by omega) (by omega))
    have hz3 : (tx ++ (et ++ ⟨#[10]⟩)).size ≤ 71 * (k + 1) := by rw [ByteArray.size_append, hz2]; omega
    generalize tx ++ (et ++ ⟨#[10]⟩) = tx2 at *
    generalize et ++ ⟨#[10]⟩ = et2 at *
    clear hz2
    go_wp2_with fail
    refine (yy cT).mono ?_
    rintro e W3 ⟨rfl, hx⟩
    have HS3 := yz ((yy HS2).kept hx)
    clear hx HS2 cT
    go_wp2_with fail
    refine ((yy cJ1) W3).mono ?_
    rintro e W4 ⟨rfl, hx⟩
    have HS4 := yz ((yy HS3).kept hx)
    clear hx HS3 cJ1
    go_wp2_with fail
    refine ((yy cJ2) W4).mono ?_
    rintro e W5 ⟨rfl, hx⟩
    have HS5 := yz ((yy HS4).kept hx)
    clear hx HS4 cJ2
    have HS6 := yz ((yy HS5).kept (an W5 (.cells #[.slice none 0 0, .int .i64 0, .int .i64 0, .int .i64 0, .int .i64 0, .int .i64 0, .int .i64 0, .int .i64 0, .int .i64 0, .int .i64 0, .int .i64 0, .int .i64 0, .int .i64 0, .slice none 0 0] 99)))
    go_wp2_with fail
    go_roundw
    case rel => exact ⟨k + 1, d', tx2, a', cap', by go_num, by omega, rfl, HRT, HK2, hz3, HS6⟩
    case measure => simp [intOf] <;> omega
   ·obtain ⟨d2, x2⟩ := R
    dsimp only at HRT hz HK2 hC2 hj
    have cT := yz (rN a2 d2.1.L.length cap2 d2.1.lim d2.1.mode d2.1.A d2.1.B d2.1.C d2.1.D d2.1.coast d2.1.fr d2.2.1 d2.2.2.1 d2.2.2.2.1 d2.2.2.2.2 wb xs W2 hW2 hxs hx4)
    rw [hj] at cT
    clear hj hW2 hxs hx4
    unfold rpV
    dsimp only
    generalize xs.length = nx at *
    have hmt : ∀ W : World, (method 402 99 (.agg #[.slice a2 d2.1.L.length cap2, .int .i64 d2.1.lim, .int .i64 d2.1.mode, .int .i64 d2.1.A, .int .i64 d2.1.B, .int .i64 d2.1.C, .int .i64 d2.1.D, .int .i64 d2.1.coast, .int .i64 d2.1.fr, .int .i64 d2.2.1, .int .i64 d2.2.2.1, .int .i64 d2.2.2.2.1, .int .i64 d2.2.2.2.2, .slice (some ⟨wb, 0, none⟩) nx nx]) "loop.example/g00577/impl.text").run Tryz.prog W = .ok (229, .agg #[.slice a2 d2.1.L.length cap2, .int .i64 d2.1.lim, .int .i64 d2.1.mode, .int .i64 d2.1.A, .int .i64 d2.1.B, .int .i64 d2.1.C, .int .i64 d2.1.D, .int .i64 d2.1.coast, .int .i64 d2.1.fr, .int .i64 d2.2.1, .int .i64 d2.2.2.1, .int .i64 d2.2.2.2.1, .int .i64 d2.2.2.2.2, .slice (some ⟨wb, 0, none⟩) nx nx]) W := fun _ => by kernel_rfl
    have hta : ∀ W : World, (Instr.typeAssert (.iface 99 (.agg #[.slice a2 d2.1.L.length cap2, .int .i64 d2.1.lim, .int .i64 d2.1.mode, .int .i64 d2.1.A, .int .i64 d2.1.B, .int .i64 d2.1.C, .int .i64 d2.1.D, .int .i64 d2.1.coast, .int .i64 d2.1.fr, .int .i64 d2.2.1, .int .i64 d2.2.2.1, .int .i64 d2.2.2.2.1, .int .i64 d2.2.2.2.2, .slice (some ⟨wb, 0, none⟩) nx nx])) 96 99 true).run Tryz.prog W = .ok (.tuple #[.agg #[.slice a2 d2.1.L.length cap2, .int .i64 d2.1.lim, .int .i64 d2.1.mode, .int .i64 d2.1.A, .int .i64 d2.1.B, .int .i64 d2.1.C, .int .i64 d2.1.D, .int .i64 d2.1.coast, .int .i64 d2.1.fr, .int .i64 d2.2.1, .int .i64 d2.2.2.1, .int .i64 d2.2.2.2.1, .int .i64 d2.2.2.2.2, .slice (some ⟨wb, 0, none⟩) nx nx], .bool true]) W := fun _ => by kernel_rfl
    have cJ1 := yz (fun W => hjx W x2 (by omega))
    have hz2 : (x2 ++ ⟨#[10]⟩).size = x2.size + 1 := by rw [ByteArray.size_append]; rfl
    have cJ2 := yz (fun W => eQ tx (x2 ++ ⟨#[10]⟩) W (by omega) (by omega))
    have hz3 : (tx ++ (x2 ++ ⟨#[10]⟩)).size ≤ 71 * (k + 1) := by rw [ByteArray.size_append, hz2]; omega
    generalize tx ++ (x2 ++ ⟨#[10]⟩) = tx2 at *
    generalize x2 ++ ⟨#[10]⟩ = et2 at *
    have HC2 := yz hC2
    clear hz2 hC2
    go_wp2_with fail
    refine (yy cT).mono ?_
    rintro e W3 ⟨rfl, hx⟩
    have HS3 := yz ((yy HS2).kept hx)
    have HC3 := yz ((yy HC2).kept hx)
    clear hx HS2 cT HC2
    go_wp2_with fail
    refine ((yy cJ1) W3).mono ?_
    rintro e W4 ⟨rfl, hx⟩
    have HS4 := yz ((yy HS3).kept hx)
    have HC4 := yz ((yy HC3).kept hx)
    clear hx HS3 cJ1 HC3
    go_wp2_with fail
    refine ((yy cJ2) W4).mono ?_
    rintro e W5 ⟨rfl, hx⟩
    have HS5 := yz ((yy HS4).kept hx)
    have HC5 := yz ((yy HC4).kept hx)
    clear hx HS4 cJ2 HC4
    have hy := an W5 (.cells #[.slice a2 d2.1.L.length cap2, .int .i64 d2.1.lim, .int .i64 d2.1.mode, .int .i64 d2.1.A, .int .i64 d2.1.B, .int .i64 d2.1.C, .int .i64 d2.1.D, .int .i64 d2.1.coast, .int .i64 d2.1.fr, .int .i64 d2.2.1, .int .i64 d2.2.2.1, .int .i64 d2.2.2.2.1, .int .i64 d2.2.2.2.2, .slice (some ⟨wb, 0, none⟩) nx nx] 99)
    have HS6 := yz ((yy HS5).kept hy)
    have HC6 := yz ((yy HC5).kept hy)
    have HY := yz (au W5 [.slice a2 d2.1.L.length cap2, .int .i64 d2.1.lim, .int .i64 d2.1.mode, .int .i64 d2.1.A, .int .i64 d2.1.B, .int .i64 d2.1.C, .int .i64 d2.1.D, .int .i64 d2.1.coast, .int .i64 d2.1.fr, .int .i64 d2.2.1, .int .i64 d2.2.2.1, .int .i64 d2.2.2.2.1, .int .i64 d2.2.2.2.2, .slice (some ⟨wb, 0, none⟩) nx nx] 99)
    clear hy HS5 HC5
    go_upto_region 8 with fail
    generalize W5.alloc (.cells #[.slice a2 d2.1.L.length cap2, .int .i64 d2.1.lim, .int .i64 d2.1.mode, .int .i64 d2.1.A, .int .i64 d2.1.B, .int .i64 d2.1.C, .int .i64 d2.1.D, .int .i64 d2.1.coast, .int .i64 d2.1.fr, .int .i64 d2.2.1, .int .i64 d2.2.2.1, .int .i64 d2.2.2.2.1, .int .i64 d2.2.2.2.2, .slice (some ⟨wb, 0, none⟩) nx nx] 99) = W6 at *
    generalize W5.heap.size = yb at *
    obtain ⟨y0, y1, y2, y3, y4, y5, y6, y7, y8, y9, y10, y11, y12⟩ : W6.cell? ⟨yb, 0, none⟩ = some (.slice a2 d2.1.L.length cap2) ∧ W6.cell? ⟨yb, 1, none⟩ = some (.int .i64 d2.1.lim) ∧ W6.cell? ⟨yb, 2, none⟩ = some (.int .i64 d2.1.mode) ∧ W6.cell? ⟨yb, 3, none⟩ = some (.int .i64 d2.1.A) ∧ W6.cell? ⟨yb, 4, none⟩ = some (.int .i64 d2.1.B) ∧ W6.cell? ⟨yb, 5, none⟩ = some (.int .i64 d2.1.C) ∧ W6.cell? ⟨yb, 6, none⟩ = some (.int .i64 d2.1.D) ∧ W6.cell? ⟨yb, 7, none⟩ = some (.int .i64 d2.1.coast) ∧ W6.cell? ⟨yb, 8, none⟩ = some (.int .i64 d2.1.fr) ∧ W6.cell? ⟨yb, 9, none⟩ = some (.int .i64 d2.2.1) ∧ W6.cell? ⟨yb, 10, none⟩ = some (.int .i64 d2.2.2.1) ∧ W6.cell? ⟨yb, 11, none⟩ = some (.int .i64 d2.2.2.2.1) ∧ W6.cell? ⟨yb, 12, none⟩ = some (.int .i64 d2.2.2.2.2) := ⟨(yy HY).cell 0 _ rfl, (yy HY).cell 1 _ rfl, (yy HY).cell 2 _ rfl, (yy HY).cell 3 _ rfl, (yy HY).cell 4 _ rfl, (yy HY).cell 5 _ rfl, (yy HY).cell 6 _ rfl, (yy HY).cell 7 _ rfl, (yy HY).cell 8 _ rfl, (yy HY).cell 9 _ rfl, (yy HY).cell 10 _ rfl, (yy HY).cell 11 _ rfl, (yy HY).cell 12 _ rfl⟩
    obtain ⟨e0, e1, e2, e3, e4, e5, e6, e7, e8, e9, e10, e11, e12⟩ : W6.cell? ⟨w.heap.size, 0, none⟩ = some (.slice a' d'.1.L.length cap') ∧ W6.cell? ⟨w.heap.size, 1, none⟩ = some (.int .i64 d'.1.lim) ∧ W6.cell? ⟨w.heap.size, 2, none⟩ = some (.int .i64 d'.1.mode) ∧ W6.cell? ⟨w.heap.size, 3, none⟩ = some (.int .i64 d'.1.A) ∧ W6.cell? ⟨w.heap.size, 4, none⟩ = some (.int .i64 d'.1.B) ∧ W6.cell? ⟨w.heap.size, 5, none⟩ = some (.int .i64 d'.1.C) ∧ W6.cell? ⟨w.heap.size, 6, none⟩ = some (.int .i64 d'.1.D) ∧ W6.cell? ⟨w.heap.size, 7, none⟩ = some (.int .i64 d'.1.coast) ∧ W6.cell? ⟨w.heap.size, 8, none⟩ = some (.int .i64 d'.1.fr) ∧ W6.cell? ⟨w.heap.size, 9, none⟩ = some (.int .i64 d'.2.1) ∧ W6.cell? ⟨w.heap.size, 10, none⟩ = some (.int .i64 d'.2.2.1) ∧ W6.cell? ⟨w.heap.size, 11, none⟩ = some (.int .i64 d'.2.2.2.1) ∧ W6.cell? ⟨w.heap.size, 12, none⟩ = some (.int .i64 d'.2.2.2.2) := ⟨(yy HS6).blk.cell 0 _ rfl, (yy HS6).blk.cell 1 _ rfl, (yy HS6).blk.cell 2 _ rfl, (yy HS6).blk.cell 3 _ rfl, (yy HS6).blk.cell 4 _ rfl, (yy HS6).blk.cell 5 _ rfl, (yy HS6).blk.cell 6 _ rfl, (yy HS6).blk.cell 7 _ rfl, (yy HS6).blk.cell 8 _ rfl, (yy HS6).blk.cell 9 _ rfl, (yy HS6).blk.cell 10 _ rfl, (yy HS6).blk.cell 11 _ rfl, (yy HS6).blk.cell 12 _ rfl⟩
    obtain ⟨z0, z1, z2, z3, z4, z5, z6, z7, z8, z9, z10, z11, z12⟩ : W6.frozen? ⟨w.heap.size, 0, none⟩ = false ∧ W6.frozen? ⟨w.heap.size, 1, none⟩ = false ∧ W6.frozen? ⟨w.heap.size, 2, none⟩ = false ∧ W6.frozen? ⟨w.heap.size, 3, none⟩ = false ∧ W6.frozen? ⟨w.heap.size, 4, none⟩ = false ∧ W6.frozen? ⟨w.heap.size, 5, none⟩ = false ∧ W6.frozen? ⟨w.heap.size, 6, none⟩ = false ∧ W6.frozen? ⟨w.heap.size, 7, none⟩ = false ∧ W6.frozen? ⟨w.heap.size, 8, none⟩ = false ∧ W6.frozen? ⟨w.heap.size, 9, none⟩ = false ∧ W6.frozen? ⟨w.heap.size, 10, none⟩ = false ∧ W6.frozen? ⟨w.heap.size, 11, none⟩ = false ∧ W6.frozen? ⟨w.heap.size, 12, none⟩ = false := ⟨(yy HS6).blk.free 0, (yy HS6).blk.free 1, (yy HS6).blk.free 2, (yy HS6).blk.free 3, (yy HS6).blk.free 4, (yy HS6).blk.free 5, (yy HS6).blk.free 6, (yy HS6).blk.free 7, (yy HS6).blk.free 8, (yy HS6).blk.free 9, (yy HS6).blk.free 10, (yy HS6).blk.free 11, (yy HS6).blk.free 12⟩
    have HS7 := yz (tP (yy HS6) (yy HC6))
    go_wp2_with fail
    go_roundw
    case rel => exact ⟨k + 1, d2, tx2, a2, cap2, by go_num, by omega, rfl, HRT, HK2, hz3, HS7⟩
    case measure => simp [intOf] <;> omega
  ·have hke : k = ls.length := by omega
   subst hke
   have hkl' : ¬ (ls.length : Int) < (ls.length : Int) := by omega
   rw [List.take_length] at HR
   go_wp2_with fail
   go_ret
   rw [yy HR]
   exact ⟨rfl, (yy HS).bel⟩
theorem oS (s : ByteArray) : (dn s ≠ 0 ∧ cg s = []) ∨ (dn s = 0 ∧ dO s = 0) := by
 unfold dn cg dO
 split
 ·exact .inl ⟨by decide, rfl⟩
 ·cases fA s with
  | inl ls => exact .inr ⟨rfl, rfl⟩
  | inr i => exact .inl ⟨(by show (3 : Int) ≠ 0; decide), rfl⟩
theorem rP {w : World} {B m k : Nat} {t : TypeId} {v : Value} {xs : List Value} (h : w.ownsRow B t m v k xs) : ∃ a n c, v = .slice a n c := by
 rcases h.2 with ⟨rfl, _⟩ | ⟨g, cp, cur, rfl, _⟩
 ·exact ⟨_, _, _, rfl⟩
 ·exact ⟨_, _, _, rfl⟩
theorem sl (s : ByteArray) : mI s = (qB cw (cg s)).2 := rfl
theorem jw (s : ByteArray) (p : Addr) (w : World) (hs : s.size ≤ 1048576) (hm : kE w) (hE : fC p w) :
  Calls Tryz.prog 7 #[.string s] w fun e w' => e = .returned (.agg #[.string (mI s), .int .i64 (dO s), .int .i64 (dn s)]) ∧ Below w.heap.size w w' := by
 have HR0 := yz (au w [.string ⟨#[]⟩, .int .i64 0, .int .i64 0] 25)
 have HB0 := yz (an w (.cells #[.string ⟨#[]⟩, .int .i64 0, .int .i64 0] 25))
 have cR := yz (mf s (w.alloc (.cells #[.string ⟨#[]⟩, .int .i64 0, .int .i64 0] 25)) hs (hm.kept (yy HB0)))
 have HDC := yz (oS s)
 have HOK := yz (rF hs)
 have HTX := yz (sl s)
 have HE0 := yz (hE.kept (yy HB0))
 have htk := nG
 unfold vn at cR
 generalize mI s = tx at *
 generalize dO s = n at *
 generalize dn s = c at *
 generalize cg s = ls at *
 clear hm hE hs
 go_enter Tryz.func7, Tryz.ntmps7
 go_wp2_with fail
 refine (yy cR).mono ?_
 rintro e W1 ⟨⟨v, rfl, hrow⟩, hx⟩
 obtain ⟨va, nn, c3, rfl⟩ := rP hrow
 have hy := an W1 (.cells #[.string ⟨#[]⟩, .int .i64 n, .int .i64 c] 25)
 have HB2 := yz (ak (ak (yy HB0) hx) hy)
 have HR2 := yz (((yy HR0).kept hx).kept hy)
 have HX := yz (au W1 [.string ⟨#[]⟩, .int .i64 n, .int .i64 c] 25)
 have HW := yz (bF hrow hy)
 have HE2 := yz (((yy HE0).kept hx).kept hy)
 clear hx hy cR hrow HR0 HE0
 go_upto_region 2 with fail
 generalize W1.alloc (.cells #[.string ⟨#[]⟩, .int .i64 n, .int .i64 c] 25) = W2 at *
 generalize W1.heap.size = xb at *
 obtain ⟨x0, x1, x2⟩ := jD (yy HX)
 rcases yy HDC with ⟨hc, hls⟩ | ⟨hc, hn⟩
 ·have HT0 : Hid (tx = ⟨#[]⟩) := yz (by rw [yy HTX, hls]; rfl)
  have hc' : (c == 0) = false := by simpa using hc
  clear hls
  have r0 := (yy HR2).cell 0 _ rfl
  have f0 := (yy HR2).free 0
  have r1 := (yy HR2).cell 1 _ rfl
  have f1 := (yy HR2).free 1
  have r2 := (yy HR2).cell 2 _ rfl
  have f2 := (yy HR2).free 2
  go_wp2_with fail
  refine bodyPost_ret (v := .agg #[.string ⟨#[]⟩, .int .i64 n, .int .i64 c]) ?_ rfl ⟨by rw [yy HT0], ?_⟩
  ·have h := (((yy HR2).set 0 (.string ⟨#[]⟩)).set 1 (.int .i64 n)).set 2 (.int .i64 c)
   obtain ⟨h0, h1, h2⟩ := jD (h)
   simp [results, Tryz.results7, go_sem, h0, h1, h2]
  ·exact ((((yy HB2).setCell (Nat.le_refl _) _).setCell (Nat.le_refl _) _).setCell (Nat.le_refl _) _)
 ·subst hc hn
  have HTK := yz htk
  clear htk
  go_wp2_with fail
  refine (nu p W2 (yy HE2)).mono ?_
  rintro e W3 ⟨⟨a3, cap3, rfl, hC⟩, hx⟩
  have HC3 := yz hC
  have HW3 := yz (bF (yy HW) hx)
  have HB3 := yz (ak (yy HB2) hx)
  have HR3 := yz ((yy HR2).kept hx)
  have HE3 := yz ((yy HE2).kept hx)
  have hsz := hx.size
  clear hx hC HW HB2 HR2 HE2 x0 x1 x2
  have cT := yz (rL W3 W2.heap.size _ cw a3 cap3 p ls va nn c3 (yy HOK).2 (yy HOK).1 (yy HW3) (yy HTK) hsz (yy HC3) (yy HE3))
  rw [← yy HTX] at cT
  generalize cw = dd at *
  go_wp2_with fail
  refine (yy cT).mono ?_
  rintro e W4 ⟨rfl, hx⟩
  have HB4 := yz (ak (yy HB3) hx)
  have HR4 := yz ((yy HR3).kept hx)
  clear hx HB3 HR3 cT
  have r0 := (yy HR4).cell 0 _ rfl
  have f0 := (yy HR4).free 0
  have r1 := (yy HR4).cell 1 _ rfl
  have f1 := (yy HR4).free 1
  have r2 := (yy HR4).cell 2 _ rfl
  have f2 := (yy HR4).free 2
  go_wp2_with fail
  refine bodyPost_ret (v := .agg #[.string tx, .int .i64 0, .int .i64 0]) ?_ rfl ⟨rfl, ?_⟩
  ·have h := (((yy HR4).set 0 (.string tx)).set 1 (.int .i64 0)).set 2 (.int .i64 0)
   obtain ⟨h0, h1, h2⟩ := jD (h)
   simp [results, Tryz.results7, go_sem, h0, h1, h2]
  ·exact ((((yy HB4).setCell (Nat.le_refl _) _).setCell (Nat.le_refl _) _).setCell (Nat.le_refl _) _)
theorem gO (n : Nat) (w : World) (hn : n ≤ 2) : Calls Tryz.prog 12 #[.int .i64 (n : Int)] w fun e w' => e = .returned (.string (if n = 0 then ⟨#[48]⟩ else if n = 1 then ⟨#[49]⟩ else ⟨#[50]⟩)) ∧ Below w.heap.size w w' := by
 have hcv : ∀ (c : UInt8), (convert 22 9 (.slice (some ⟨w.heap.size, 0, none⟩) 1 1)).run Tryz.prog (w.alloc (.cells #[.int .u8 (c.toNat : Int)] 5)) = .ok (.string ⟨#[c]⟩) (w.alloc (.cells #[.int .u8 (c.toNat : Int)] 5)) := fun c => by
  have := run_convert_bytes_back (P := Tryz.prog) (w.alloc (.cells #[.int .u8 (c.toNat : Int)] 5)) 22 9 5 ⟨w.heap.size, 0, none⟩ 1 [c] Tryz.underlying22 Tryz.underlying5 Tryz.underlying9 (fun j hj => by
   obtain rfl : j = 0 := by simp at hj; omega
   simp [Addr.add])
  simpa using this
 have h8 := hcv 48
 have h9 := hcv 49
 have h7 := hcv 50
 simp only [show ((48 : UInt8).toNat : Int) = 48 from rfl] at h8
 simp only [show ((49 : UInt8).toNat : Int) = 49 from rfl] at h9
 simp only [show ((50 : UInt8).toNat : Int) = 50 from rfl] at h7
 clear hcv
 rcases (by omega : n = 0 ∨ n = 1 ∨ n = 2) with rfl | rfl | rfl
 all_goals
  go_enter Tryz.func12, Tryz.ntmps12
  go_wp2
  go_ret
  exact ⟨rfl, an _ _⟩
theorem rI (k : Int) (w : World) (h0 : 0 ≤ k) (h5 : k < 5) : Calls Tryz.prog 12 #[.int .i64 (k - 2)] w fun e w' => (∃ x : ByteArray, e = .returned (.string x) ∧ ⟨#[49, 44, 48, 44, 48, 44]⟩ ++ x = pn k ∧ x.size ≤ 2) ∧ Below w.heap.size w w' := by
 rcases (by omega : k = 0 ∨ k = 1 ∨ k = 2 ∨ k = 3 ∨ k = 4) with rfl | rfl | rfl | rfl | rfl
 ·go_enter Tryz.func12, Tryz.ntmps12
  go_wp2_with fail
  refine (gO 2 w (by decide)).mono ?_
  rintro e w' ⟨rfl, hx⟩
  rw [if_neg (by decide), if_neg (by decide)]
  go_wp2_with fail
  go_ret
  exact ⟨⟨_, rfl, by decide +kernel, by decide +kernel⟩, hx⟩
 ·go_enter Tryz.func12, Tryz.ntmps12
  go_wp2_with fail
  refine (gO 1 w (by decide)).mono ?_
  rintro e w' ⟨rfl, hx⟩
  rw [if_neg (by decide), if_pos rfl]
  go_wp2_with fail
  go_ret
  exact ⟨⟨_, rfl, by decide +kernel, by decide +kernel⟩, hx⟩
 ·exact (gO 0 w (by decide)).mono fun e w' ⟨he, hx⟩ => ⟨⟨_, he, by decide +kernel, by decide +kernel⟩, hx⟩
 ·exact (gO 1 w (by decide)).mono fun e w' ⟨he, hx⟩ => ⟨⟨_, he, by decide +kernel, by decide +kernel⟩, hx⟩
 ·exact (gO 2 w (by decide)).mono fun e w' ⟨he, hx⟩ => ⟨⟨_, he, by decide +kernel, by decide +kernel⟩, hx⟩
theorem qN (a0 : Option Addr) (len0 cap0 : Nat) (p : Addr) (w : World) (h0 : len0 ≤ 1048576) (r0 : Row w a0 len0 w.heap.size) (hE : fC p w) (hm : kE w) :
  Calls Tryz.prog 4 #[.slice a0 len0 cap0] w fun e w' => e = .returned (.bool true) ∧ Below w.heap.size w w' := by
 have hb : ¬ (1048576 : Int) < (len0 : Int) := by omega
 have cA := yz (sf a0 len0 cap0 0 5 w h0 (by decide) (by decide) r0)
 have HE := yz hE
 have HM := yz hm
 clear r0 hE hm
 go_enter Tryz.func4, Tryz.ntmps4
 go_wp2_with fail
 refine (yy cA).mono ?_
 rintro e w' ⟨k, rfl, hk0, hk5, _, rfl⟩
 replace hk5 := hk5 (by decide)
 have HTOP := yz (vB hk0 hk5)
 have cN := yz (rI k w' hk0 hk5)
 have hsb : wrap64 (k - 2) = k - 2 := ap (by omega) (by omega)
 clear cA
 go_wp2_with fail
 refine (yy cN).mono ?_
 rintro e W1 ⟨⟨x, rfl, hx, hxs⟩, hB⟩
 rw [← hx] at HTOP
 have hc1 : ¬ (⟨#[49, 44, 48, 44, 48, 44]⟩ : ByteArray).size + x.size > 9223372036854775807 := by rw [show (⟨#[49, 44, 48, 44, 48, 44]⟩ : ByteArray).size = 6 from rfl]; omega
 clear hx cN hsb
 go_upto_region 4 with fail
 have hds : (⟨#[49, 44, 48, 44, 48, 44]⟩ ++ x).size ≤ 8 := (yy HTOP).2.2
 generalize ⟨#[49, 44, 48, 44, 48, 44]⟩ ++ x = d at *
 clear hc1 hxs
 have hc2 : ¬ (⟨#[100, 114, 105, 102, 116, 32]⟩ : ByteArray).size + d.size > 9223372036854775807 := by rw [show (⟨#[100, 114, 105, 102, 116, 32]⟩ : ByteArray).size = 6 from rfl]; omega
 have hc3 : ¬ (⟨#[49, 32]⟩ : ByteArray).size + d.size > 9223372036854775807 := by rw [show (⟨#[49, 32]⟩ : ByteArray).size = 2 from rfl]; omega
 have HS : Hid (cy (W1.alloc (.cells #[.string ⟨#[105, 100, 115, 32, 48]⟩, .string ⟨#[115, 116, 97, 116, 101]⟩, .string ⟨#[115, 101, 101, 32, 48]⟩, .string ⟨#[115, 116, 97, 116, 101]⟩, .string ((⟨#[100, 114, 105, 102, 116, 32]⟩ : ByteArray) ++ d), .string ⟨#[115, 101, 101, 32, 48]⟩, .string ⟨#[115, 116, 97, 116, 101]⟩, .string ⟨#[109, 111, 118, 101, 32, 49, 44, 48, 44, 48, 44, 49]⟩, .string ⟨#[98, 108, 105, 110, 100]⟩, .string ⟨#[115, 101, 101, 32, 48]⟩, .string ⟨#[98, 108, 105, 110, 100]⟩, .string ⟨#[98, 108, 105, 110, 100]⟩, .string ⟨#[98, 108, 105, 110, 100]⟩, .string ⟨#[115, 116, 97, 116, 101]⟩, .string ⟨#[105, 100, 115, 32, 49, 48, 49]⟩, .string ⟨#[100, 114, 105, 102, 116, 32, 49, 44, 49, 44, 48, 44, 48]⟩, .string ⟨#[114, 101, 115, 101, 116]⟩, .string ⟨#[115, 101, 101, 32, 49, 48, 49]⟩, .string ⟨#[109, 111, 118, 101, 32, 120]⟩, .string ⟨#[109, 111, 118, 101, 32, 49, 44, 48, 44, 48, 44, 54]⟩] 9)) W1.heap.size (eh d)) := yz (au W1 ((eh d).map .string) 9)
 have HT : Hid (cy ((W1.alloc (.cells #[.string ⟨#[105, 100, 115, 32, 48]⟩, .string ⟨#[115, 116, 97, 116, 101]⟩, .string ⟨#[115, 101, 101, 32, 48]⟩, .string ⟨#[115, 116, 97, 116, 101]⟩, .string ((⟨#[100, 114, 105, 102, 116, 32]⟩ : ByteArray) ++ d), .string ⟨#[115, 101, 101, 32, 48]⟩, .string ⟨#[115, 116, 97, 116, 101]⟩, .string ⟨#[109, 111, 118, 101, 32, 49, 44, 48, 44, 48, 44, 49]⟩, .string ⟨#[98, 108, 105, 110, 100]⟩, .string ⟨#[115, 101, 101, 32, 48]⟩, .string ⟨#[98, 108, 105, 110, 100]⟩, .string ⟨#[98, 108, 105, 110, 100]⟩, .string ⟨#[98, 108, 105, 110, 100]⟩, .string ⟨#[115, 116, 97, 116, 101]⟩, .string ⟨#[105, 100, 115, 32, 49, 48, 49]⟩, .string ⟨#[100, 114, 105, 102, 116, 32, 49, 44, 49, 44, 48, 44, 48]⟩, .string ⟨#[114, 101, 115, 101, 116]⟩, .string ⟨#[115, 101, 101, 32, 49, 48, 49]⟩, .string ⟨#[109, 111, 118, 101, 32, 120]⟩, .string ⟨#[109, 111, 118, 101, 32, 49, 44, 48, 44, 48, 44, 54]⟩] 9)).alloc (.cells #[.string ⟨#[49, 44, 50, 44, 51, 44, 52, 44, 53]⟩, .string ⟨#[48, 32, 45]⟩, .string ⟨#[49]⟩, .string ⟨#[49, 32, 49, 44, 48, 44, 48, 44, 48]⟩, .string ⟨#[111, 107]⟩, .string ⟨#[49]⟩, .string ((⟨#[49, 32]⟩ : ByteArray) ++ d), .string ⟨#[111, 107]⟩, .string ⟨#[50]⟩, .string ⟨#[49]⟩, .string ⟨#[50]⟩, .string ⟨#[50]⟩, .string ⟨#[48]⟩, .string ⟨#[48, 32, 45]⟩, .string ⟨#[101, 114, 114, 111, 114, 32, 54]⟩, .string ⟨#[111, 107]⟩, .string ⟨#[111, 107]⟩, .string ⟨#[48]⟩, .string ⟨#[101, 114, 114, 111, 114, 32, 51]⟩, .string ⟨#[101, 114, 114, 111, 114, 32, 51]⟩] 9)) (W1.alloc (.cells #[.string ⟨#[105, 100, 115, 32, 48]⟩, .string ⟨#[115, 116, 97, 116, 101]⟩, .string ⟨#[115, 101, 101, 32, 48]⟩, .string ⟨#[115, 116, 97, 116, 101]⟩, .string ((⟨#[100, 114, 105, 102, 116, 32]⟩ : ByteArray) ++ d), .string ⟨#[115, 101, 101, 32, 48]⟩, .string ⟨#[115, 116, 97, 116, 101]⟩, .string ⟨#[109, 111, 118, 101, 32, 49, 44, 48, 44, 48, 44, 49]⟩, .string ⟨#[98, 108, 105, 110, 100]⟩, .string ⟨#[115, 101, 101, 32, 48]⟩, .string ⟨#[98, 108, 105, 110, 100]⟩, .string ⟨#[98, 108, 105, 110, 100]⟩, .string ⟨#[98, 108, 105, 110, 100]⟩, .string ⟨#[115, 116, 97, 116, 101]⟩, .string ⟨#[105, 100, 115, 32, 49, 48, 49]⟩, .string ⟨#[100, 114, 105, 102, 116, 32, 49, 44, 49, 44, 48, 44, 48]⟩, .string ⟨#[114, 101, 115, 101, 116]⟩, .string ⟨#[115, 101, 101, 32, 49, 48, 49]⟩, .string ⟨#[109, 111, 118, 101, 32, 120]⟩, .string ⟨#[109, 111, 118, 101, 32, 49, 44, 48, 44, 48, 44, 54]⟩] 9)).heap.size (eD d)) := yz (au (W1.alloc (.cells #[.string ⟨#[105, 100, 115, 32, 48]⟩, .string ⟨#[115, 116, 97, 116, 101]⟩, .string ⟨#[115, 101, 101, 32, 48]⟩, .string ⟨#[115, 116, 97, 116, 101]⟩, .string ((⟨#[100, 114, 105, 102, 116, 32]⟩ : ByteArray) ++ d), .string ⟨#[115, 101, 101, 32, 48]⟩, .string ⟨#[115, 116, 97, 116, 101]⟩, .string ⟨#[109, 111, 118, 101, 32, 49, 44, 48, 44, 48, 44, 49]⟩, .string ⟨#[98, 108, 105, 110, 100]⟩, .string ⟨#[115, 101, 101, 32, 48]⟩, .string ⟨#[98, 108, 105, 110, 100]⟩, .string ⟨#[98, 108, 105, 110, 100]⟩, .string ⟨#[98, 108, 105, 110, 100]⟩, .string ⟨#[115, 116, 97, 116, 101]⟩, .string ⟨#[105, 100, 115, 32, 49, 48, 49]⟩, .string ⟨#[100, 114, 105, 102, 116, 32, 49, 44, 49, 44, 48, 44, 48]⟩, .string ⟨#[114, 101, 115, 101, 116]⟩, .string ⟨#[115, 101, 101, 32, 49, 48, 49]⟩, .string ⟨#[109, 111, 118, 101, 32, 120]⟩, .string ⟨#[109, 111, 118, 101, 32, 49, 44, 48, 44, 48, 44, 54]⟩] 9)) ((eD d).map .string) 9)
 have hs1 : (W1.alloc (.cells #[.string ⟨#[105, 100, 115, 32, 48]⟩, .string ⟨#[115, 116, 97, 116, 101]⟩, .string ⟨#[115, 101, 101, 32, 48]⟩, .string ⟨#[115, 116, 97, 116, 101]⟩, .string ((⟨#[100, 114, 105, 102, 116, 32]⟩ : ByteArray) ++ d), .string ⟨#[115, 101, 101, 32, 48]⟩, .string ⟨#[115, 116, 97, 116, 101]⟩, .string ⟨#[109, 111, 118, 101, 32, 49, 44, 48, 44, 48, 44, 49]⟩, .string ⟨#[98, 108, 105, 110, 100]⟩, .string ⟨#[115, 101, 101, 32, 48]⟩, .string ⟨#[98, 108, 105, 110, 100]⟩, .string ⟨#[98, 108, 105, 110, 100]⟩, .string ⟨#[98, 108, 105, 110, 100]⟩, .string ⟨#[115, 116, 97, 116, 101]⟩, .string ⟨#[105, 100, 115, 32, 49, 48, 49]⟩, .string ⟨#[100, 114, 105, 102, 116, 32, 49, 44, 49, 44, 48, 44, 48]⟩, .string ⟨#[114, 101, 115, 101, 116]⟩, .string ⟨#[115, 101, 101, 32, 49, 48, 49]⟩, .string ⟨#[109, 111, 118, 101, 32, 120]⟩, .string ⟨#[109, 111, 118, 101, 32, 49, 44, 48, 44, 48, 44, 54]⟩] 9)).heap.size = W1.heap.size + 1 := by simp
 rw [hs1] at HT
 replace HS := yz ((yy HS).kept (an (W1.alloc (.cells #[.string ⟨#[105, 100, 115, 32, 48]⟩, .string ⟨#[115, 116, 97, 116, 101]⟩, .string ⟨#[115, 101, 101, 32, 48]⟩, .string ⟨#[115, 116, 97, 116, 101]⟩, .string ((⟨#[100, 114, 105, 102, 116, 32]⟩ : ByteArray) ++ d), .string ⟨#[115, 101, 101, 32, 48]⟩, .string ⟨#[115, 116, 97, 116, 101]⟩, .string ⟨#[109, 111, 118, 101, 32, 49, 44, 48, 44, 48, 44, 49]⟩, .string ⟨#[98, 108, 105, 110, 100]⟩, .string ⟨#[115, 101, 101, 32, 48]⟩, .string ⟨#[98, 108, 105, 110, 100]⟩, .string ⟨#[98, 108, 105, 110, 100]⟩, .string ⟨#[98, 108, 105, 110, 100]⟩, .string ⟨#[115, 116, 97, 116, 101]⟩, .string ⟨#[105, 100, 115, 32, 49, 48, 49]⟩, .string ⟨#[100, 114, 105, 102, 116, 32, 49, 44, 49, 44, 48, 44, 48]⟩, .string ⟨#[114, 101, 115, 101, 116]⟩, .string ⟨#[115, 101, 101, 32, 49, 48, 49]⟩, .string ⟨#[109, 111, 118, 101, 32, 120]⟩, .string ⟨#[109, 111, 118, 101, 32, 49, 44, 48, 44, 48, 44, 54]⟩] 9)) (.cells #[.string ⟨#[49, 44, 50, 44, 51, 44, 52, 44, 53]⟩, .string ⟨#[48, 32, 45]⟩, .string ⟨#[49]⟩, .string ⟨#[49, 32, 49, 44, 48, 44, 48, 44, 48]⟩, .string ⟨#[111, 107]⟩, .string ⟨#[49]⟩, .string ((⟨#[49, 32]⟩ : ByteArray) ++ d), .string ⟨#[111, 107]⟩, .string ⟨#[50]⟩, .string ⟨#[49]⟩, .string ⟨#[50]⟩, .string ⟨#[50]⟩, .string ⟨#[48]⟩, .string ⟨#[48, 32, 45]⟩, .string ⟨#[101, 114, 114, 111, 114, 32, 54]⟩, .string ⟨#[111, 107]⟩, .string ⟨#[111, 107]⟩, .string ⟨#[48]⟩, .string ⟨#[101, 114, 114, 111, 114, 32, 51]⟩, .string ⟨#[101, 114, 114, 111, 114, 32, 51]⟩] 9)))
 have HB2 := yz (ak hB (aH W1 (.cells #[.string ⟨#[105, 100, 115, 32, 48]⟩, .string ⟨#[115, 116, 97, 116, 101]⟩, .string ⟨#[115, 101, 101, 32, 48]⟩, .string ⟨#[115, 116, 97, 116, 101]⟩, .string ((⟨#[100, 114, 105, 102, 116, 32]⟩ : ByteArray) ++ d), .string ⟨#[115, 101, 101, 32, 48]⟩, .string ⟨#[115, 116, 97, 116, 101]⟩, .string ⟨#[109, 111, 118, 101, 32, 49, 44, 48, 44, 48, 44, 49]⟩, .string ⟨#[98, 108, 105, 110, 100]⟩, .string ⟨#[115, 101, 101, 32, 48]⟩, .string ⟨#[98, 108, 105, 110, 100]⟩, .string ⟨#[98, 108, 105, 110, 100]⟩, .string ⟨#[98, 108, 105, 110, 100]⟩, .string ⟨#[115, 116, 97, 116, 101]⟩, .string ⟨#[105, 100, 115, 32, 49, 48, 49]⟩, .string ⟨#[100, 114, 105, 102, 116, 32, 49, 44, 49, 44, 48, 44, 48]⟩, .string ⟨#[114, 101, 115, 101, 116]⟩, .string ⟨#[115, 101, 101, 32, 49, 48, 49]⟩, .string ⟨#[109, 111, 118, 101, 32, 120]⟩, .string ⟨#[109, 111, 118, 101, 32, 49, 44, 48, 44, 48, 44, 54]⟩] 9) (.cells #[.string ⟨#[49, 44, 50, 44, 51, 44, 52, 44, 53]⟩, .string ⟨#[48, 32, 45]⟩, .string ⟨#[49]⟩, .string ⟨#[49, 32, 49, 44, 48, 44, 48, 44, 48]⟩, .string ⟨#[111, 107]⟩, .string ⟨#[49]⟩, .string ((⟨#[49, 32]⟩ : ByteArray) ++ d), .string ⟨#[111, 107]⟩, .string ⟨#[50]⟩, .string ⟨#[49]⟩, .string ⟨#[50]⟩, .string ⟨#[50]⟩, .string ⟨#[48]⟩, .string ⟨#[48, 32, 45]⟩, .string ⟨#[101, 114, 114, 111, 114, 32, 54]⟩, .string ⟨#[111, 107]⟩, .string ⟨#[111, 107]⟩, .string ⟨#[48]⟩, .string ⟨#[101, 114, 114, 111, 114, 32, 51]⟩, .string ⟨#[101, 114, 114, 111, 114, 32, 51]⟩] 9)))
 have hss := oQ hds
 have hts := pj hds
 have HLS : Hid (∀ k, k < 20 → ∃ x, (eh d)[k]? = some x ∧ (eh d).getD k ⟨#[]⟩ = x ∧ x.size ≤ 20) := yz (fun k hk => by
  have hl : k < (eh d).length := hk
  exact ⟨_, List.getElem?_eq_getElem hl, by rw [List.getD_eq_getElem?_getD, List.getElem?_eq_getElem hl]; rfl, hss _ (List.getElem_mem hl)⟩)
 have HLT : Hid (∀ k, k < 20 → ∃ x, (eD d)[k]? = some x ∧ (eD d).getD k ⟨#[]⟩ = x ∧ x.size ≤ 20) := yz (fun k hk => by
  have hl : k < (eD d).length := hk
  exact ⟨_, List.getElem?_eq_getElem hl, by rw [List.getD_eq_getElem?_getD, List.getElem?_eq_getElem hl]; rfl, hts _ (List.getElem_mem hl)⟩)
 have HZS := yz (jb (eh d) 20 hss)
 have HZT := yz (jb (eD d) 20 hts)
 have HJS : Hid (∀ k, ee (eh d) (k + 1) = (ee (eh d) k ++ (eh d).getD k ⟨#[]⟩) ++ ⟨#[10]⟩) := yz (fun _ => rfl)
 have HJT : Hid (∀ k, ee (eD d) (k + 1) = (ee (eD d) k ++ (eD d).getD k ⟨#[]⟩) ++ ⟨#[10]⟩) := yz (fun _ => rfl)
 have HJ0 : Hid (ee (eh d) 0 = ⟨#[]⟩ ∧ ee (eD d) 0 = ⟨#[]⟩) := yz ⟨rfl, rfl⟩
 unfold jM at HTOP
 clear hss hts hB
 go_upto_region 6 with fail
 generalize (W1.alloc (.cells #[.string ⟨#[105, 100, 115, 32, 48]⟩, .string ⟨#[115, 116, 97, 116, 101]⟩, .string ⟨#[115, 101, 101, 32, 48]⟩, .string ⟨#[115, 116, 97, 116, 101]⟩, .string ((⟨#[100, 114, 105, 102, 116, 32]⟩ : ByteArray) ++ d), .string ⟨#[115, 101, 101, 32, 48]⟩, .string ⟨#[115, 116, 97, 116, 101]⟩, .string ⟨#[109, 111, 118, 101, 32, 49, 44, 48, 44, 48, 44, 49]⟩, .string ⟨#[98, 108, 105, 110, 100]⟩, .string ⟨#[115, 101, 101, 32, 48]⟩, .string ⟨#[98, 108, 105, 110, 100]⟩, .string ⟨#[98, 108, 105, 110, 100]⟩, .string ⟨#[98, 108, 105, 110, 100]⟩, .string ⟨#[115, 116, 97, 116, 101]⟩, .string ⟨#[105, 100, 115, 32, 49, 48, 49]⟩, .string ⟨#[100, 114, 105, 102, 116, 32, 49, 44, 49, 44, 48, 44, 48]⟩, .string ⟨#[114, 101, 115, 101, 116]⟩, .string ⟨#[115, 101, 101, 32, 49, 48, 49]⟩, .string ⟨#[109, 111, 118, 101, 32, 120]⟩, .string ⟨#[109, 111, 118, 101, 32, 49, 44, 48, 44, 48, 44, 54]⟩] 9)).alloc (.cells #[.string ⟨#[49, 44, 50, 44, 51, 44, 52, 44, 53]⟩, .string ⟨#[48, 32, 45]⟩, .string ⟨#[49]⟩, .string ⟨#[49, 32, 49, 44, 48, 44, 48, 44, 48]⟩, .string ⟨#[111, 107]⟩, .string ⟨#[49]⟩, .string ((⟨#[49, 32]⟩ : ByteArray) ++ d), .string ⟨#[111, 107]⟩, .string ⟨#[50]⟩, .string ⟨#[49]⟩, .string ⟨#[50]⟩, .string ⟨#[50]⟩, .string ⟨#[48]⟩, .string ⟨#[48, 32, 45]⟩, .string ⟨#[101, 114, 114, 111, 114, 32, 54]⟩, .string ⟨#[111, 107]⟩, .string ⟨#[111, 107]⟩, .string ⟨#[48]⟩, .string ⟨#[101, 114, 114, 111, 114, 32, 51]⟩, .string ⟨#[101, 114, 114, 111, 114, 32, 51]⟩] 9) = W2 at *
 generalize W1.heap.size = sb at *
 generalize eh d = SL at *
 generalize eD d = TL at *
 clear hs1 hc2 hc3 hds
 go_wp2_with fail
 go_loopw [6, 7, 8] (fun tv wv iv wr => ∃ k : Nat, k ≤ 20 ∧ iv = .int .i64 k ∧ tv = .string (ee SL k) ∧ wv = .string (ee TL k) ∧ wr = W2) (fun _ _ iv _ => 20 - (intOf iv).toNat)
 case atStart => exact ⟨0, by omega, rfl, by rw [(yy HJ0).1], by rw [(yy HJ0).2], rfl⟩
 case round =>
  obtain ⟨k, hk, rfl, rfl, rfl, rfl⟩ := hrel
  by_cases hk2 : k < 20
  ·have hk' : (k : Int) < 20 := by omega
   obtain ⟨x, hx1, hx2, hx3⟩ := yy HLS k hk2
   obtain ⟨y, hy1, hy2, hy3⟩ := yy HLT k hk2
   have c1 := (yy HS).cells k x hx1
   have c2 := (yy HT).cells k y hy1
   rw [Nat.zero_add] at c1 c2
   have e1 := yz (yy HJS k)
   have e2 := yz (yy HJT k)
   rw [hx2] at e1
   rw [hy2] at e2
   have z1 := yy HZS k
   have z2 := yy HZT k
   clear hx1 hx2 hy1 hy2
   have a1 : ¬ (ee SL k).size + x.size > 9223372036854775807 := by omega
   have a2 : ¬ (ee SL k ++ x).size + (⟨#[10]⟩ : ByteArray).size > 9223372036854775807 := by rw [ByteArray.size_append, show (⟨#[10]⟩ : ByteArray).size = 1 from rfl]; omega
   have b1 : ¬ (ee TL k).size + y.size > 9223372036854775807 := by omega
   have b2 : ¬ (ee TL k ++ y).size + (⟨#[10]⟩ : ByteArray).size > 9223372036854775807 := by rw [ByteArray.size_append, show (⟨#[10]⟩ : ByteArray).size = 1 from rfl]; omega
   generalize ee SL k = sk at *
   generalize ee TL k = tk at *
   go_wp2_with fail
   go_roundw
   case rel => exact ⟨k + 1, by omega, by go_num, by rw [yy e1], by rw [yy e2], (by first | rfl | trivial)⟩
   case measure => simp [intOf] <;> omega
  ·have hke : k = 20 := by omega
   subst hke
   have z1 := yy HZS 20
   have cI := yz (jw (ee SL 20) p wr (by omega) ((yy HM).kept (yy HB2)) ((yy HE).kept (yy HB2)))
   rw [(yy HTOP).1, (yy HTOP).2.1] at cI
   generalize ee SL 20 = sk at *
   generalize ee TL 20 = tk at *
   generalize dO sk = ln at *
   go_wp2_with fail
   refine (yy cI).mono ?_
   rintro e W3 ⟨rfl, hx⟩
   have HB3 := yz (ak (yy HB2) hx)
   have HB4 := yz (ak (yy HB3) (an W3 (.cells #[.string tk, .int .i64 ln, .int .i64 0] 25)))
   have y0 := (au W3 [.string tk, .int .i64 ln, .int .i64 0] 25).cell 0 _ rfl
   have y2 := (au W3 [.string tk, .int .i64 ln, .int .i64 0] 25).cell 2 _ rfl
   clear hx
   go_wp2_with fail
   go_ret
   exact ⟨rfl, yy HB4⟩
end
end Go.Proofs.YtdchjcadhlkpfaaGreatDoor
