/- Several texts in one: DtI, DtJ, DtK. -/
import Derived.Test.YtlleafjdgblhcaaGreatDoorQDeskRunOwn44
import Derived.Test.YtlleafjdgblhcaaGreatDoorQDeskRunOwn45
import Derived.Test.YtlleafjdgblhcaaGreatDoorQDeskRunOwn46
import Derived.Test.YtlleafjdgblhcaaGreatDoorQDeskRunOwn47
import Derived.Test.YtlleafjdgblhcaaGreatDoorQDeskRunOwn43
import Derived.Test.YtlleafjdgblhcaaGreatDoorQDeskRunOwn20
namespace Go.Proofs.YtlleafjdgblhcaaGreatDoor
set_option linter.unusedVariables false
set_option linter.unusedSimpArgs false
set_option maxRecDepth 100000
set_option maxHeartbeats 8000000
section
open Go.RowKit Go.Sort
theorem BG (k : Nat) (hk : k < 7) (args : Array Value) (W : World) : (callFunc (eu k) args).run Tryz.prog W = .ok (.enter (eu k) args) W := by
 rcases wh hk with rfl | rfl | rfl | rfl | rfl | rfl | rfl <;> kernel_rfl
theorem Bh (w : World) (B : Nat) (d : Tk × U4) (a : Option Addr) (cap : Nat) (p : Addr) (l : Ln) (hl : l.k < 7) (hs : l.t.length ≤ 1048576) (hk : aD d.1 = true) (hB : B ≤ w.heap.size) (hC : az w B d.1.L a cap) (hE : jY p w) :
  Calls Tryz.prog (eu l.k) #[.agg #[.slice a d.1.L.length cap, .int .i64 d.1.lim, .int .i64 d.1.mode, .int .i64 d.1.A, .int .i64 d.1.B, .int .i64 d.1.C, .int .i64 d.1.D, .int .i64 d.1.coast, .int .i64 d.1.fr, .int .i64 d.2.1, .int .i64 d.2.2.1, .int .i64 d.2.2.2.1, .int .i64 d.2.2.2.2], .agg #[.string ⟨l.t.toArray⟩, .int .i64 l.n]] w fun e w' => Ans w' B d (gU d l) e ∧ Below w.heap.size w w' := by
 obtain ⟨t, u⟩ := d
 obtain ⟨k, tl, n⟩ := l
 have hs' : (⟨tl.toArray⟩ : ByteArray).size ≤ 9223372036854775807 := by show tl.toArray.size ≤ _; have : tl.length ≤ 1048576 := hs; simp; omega
 have hl' : k < 7 := hl
 rcases wh hl' with rfl | rfl | rfl | rfl | rfl | rfl | rfl
 ·exact xD w B t u a cap p _ n hk hB hC hE
 ·exact xP w B t u a cap p _ n hs' hk hB hC hE
 ·exact Br w B t u a cap p _ n hk hB hC hE
 ·exact zF w B t u a cap p _ n hs' hk hB hC hE
 ·exact xN w B t u a cap p _ n hk hB hC hE
 ·exact BC w B t u a cap p _ n hk hB hC hE
 ·exact yd w B t u a cap p _ n hk hB hC hE
theorem rt : ∀ (D : List (List UInt8)) (i : Nat) (ls : List Ln), dF i D = .inl ls → ls.length ≤ 40 - i ∧ ∀ l ∈ ls, l.k < 7 ∧ ∃ q ∈ D, l.t.length ≤ q.length
 | [], i, ls, h => by
  cases h
  exact ⟨Nat.zero_le _, fun l hl => by cases hl⟩
 | [q], i, ls, h => by
  have h' : (if q = [] then (.inl [] : List Ln ⊕ Nat) else .inr i) = .inl ls := h
  split at h'
  ·cases h'
   exact ⟨Nat.zero_le _, fun l hl => by cases hl⟩
  ·cases h'
 | q :: r :: s, i, ls, h => by
  unfold dF at h
  split at h
  ·cases h
  ·rename_i l hl
   split at h
   ·cases h
   ·rename_i h40
    split at h
    ·rename_i ls' hls
     cases h
     have ih := rt (r :: s) (i + 1) ls' hls
     have hk := yk hl
     refine ⟨by rw [List.length_cons]; omega, fun x hx => ?_⟩
     rcases List.mem_cons.1 hx with rfl | hx
     ·exact ⟨by omega, q, List.mem_cons_self .., hk.2⟩
     ·obtain ⟨h1, p, hp, h2⟩ := ih.2 x hx
      exact ⟨h1, p, List.mem_cons_of_mem _ hp, h2⟩
    ·cases h
theorem zL {s : ByteArray} (hs : s.size ≤ 1048576) : (eA s).length ≤ 40 ∧ ∀ l ∈ eA s, l.k < 7 ∧ l.t.length ≤ 1048576 := by
 unfold eA
 split
 ·exact ⟨by decide, fun l hl => by cases hl⟩
 ·split
  ·rename_i ls h
   have := rt _ _ _ h
   refine ⟨by omega, fun l hl => ?_⟩
   obtain ⟨h1, q, hq, h2⟩ := this.2 l hl
   have h3 := gN hq
   rw [bg] at h3
   exact ⟨h1, by omega⟩
  ·exact ⟨by decide, fun l hl => by cases hl⟩
theorem Di (W : World) (a : Option Addr) (n c : Nat) (i1 i2 i3 i4 i5 i6 i7 i8 i9 : Int) : (Instr.field 36 (.agg #[.slice a n c, .int .i64 i1, .int .i64 i2, .int .i64 i3, .int .i64 i4, .int .i64 i5, .int .i64 i6, .int .i64 i7, .int .i64 i8, .int .i64 i9]) 0).run Tryz.prog W = .ok (.agg #[.slice a n c, .int .i64 i1, .int .i64 i2, .int .i64 i3, .int .i64 i4, .int .i64 i5, .int .i64 i6, .int .i64 i7, .int .i64 i8]) W := by kernel_rfl
theorem qI {W : World} {b : Nat} {v0 v1 v2 v3 v4 v5 v6 v7 v8 v9 v10 v11 v12 : Value} {t : TypeId} (h : Blk W b [v0, v1, v2, v3, v4, v5, v6, v7, v8, v9, v10, v11, v12] t) (x0 x1 x2 x3 x4 x5 x6 x7 x8 x9 x10 x11 x12 : Value) : Blk (((((((((((((W.setCell ⟨b, 0, none⟩ x0).setCell ⟨b, 1, none⟩ x1).setCell ⟨b, 2, none⟩ x2).setCell ⟨b, 3, none⟩ x3).setCell ⟨b, 4, none⟩ x4).setCell ⟨b, 5, none⟩ x5).setCell ⟨b, 6, none⟩ x6).setCell ⟨b, 7, none⟩ x7).setCell ⟨b, 8, none⟩ x8).setCell ⟨b, 9, none⟩ x9).setCell ⟨b, 10, none⟩ x10).setCell ⟨b, 11, none⟩ x11).setCell ⟨b, 12, none⟩ x12) b [x0, x1, x2, x3, x4, x5, x6, x7, x8, x9, x10, x11, x12] t := (Blk.set (Blk.set (Blk.set (Blk.set (Blk.set (Blk.set (Blk.set (Blk.set (Blk.set (Blk.set (Blk.set (Blk.set (Blk.set h 0 x0) 1 x1) 2 x2) 3 x3) 4 x4) 5 x5) 6 x6) 7 x7) 8 x8) 9 x9) 10 x10) 11 x11) 12 x12)
theorem iw (W : World) (b : Nat) (x0 x1 x2 x3 x4 x5 x6 x7 x8 x9 x10 x11 x12 : Value) : W.grownBy (((((((((((((W.setCell ⟨b, 0, none⟩ x0).setCell ⟨b, 1, none⟩ x1).setCell ⟨b, 2, none⟩ x2).setCell ⟨b, 3, none⟩ x3).setCell ⟨b, 4, none⟩ x4).setCell ⟨b, 5, none⟩ x5).setCell ⟨b, 6, none⟩ x6).setCell ⟨b, 7, none⟩ x7).setCell ⟨b, 8, none⟩ x8).setCell ⟨b, 9, none⟩ x9).setCell ⟨b, 10, none⟩ x10).setCell ⟨b, 11, none⟩ x11).setCell ⟨b, 12, none⟩ x12) (some b) := (aB (aB (aB (aB (aB (aB (aB (aB (aB (aB (aB (aB (aB (aM (Below.refl _ _)) 0 _) 1 _) 2 _) 3 _) 4 _) 5 _) 6 _) 7 _) 8 _) 9 _) 10 _) 11 _) 12 _)
theorem Ed (T : Array Value) (X : World) (b : Nat) (v0 v1 v2 v3 v4 v5 v6 v7 v8 v9 v10 v11 v12 : Value) (hT : T.getD 0 undef = .pointer (some ⟨b, 0, none⟩)) (h : Blk X b [v0, v1, v2, v3, v4, v5, v6, v7, v8, v9, v10, v11, v12] 51) : (results Tryz.f13 T).run Tryz.prog X = .ok (.agg #[v0, v1, v2, v3, v4, v5, v6, v7, v8, v9, v10, v11, v12]) X := by
 obtain ⟨h0, h1, h2, h3, h4, h5, h6, h7, h8, h9, h10, h11, h12⟩ := Bo (h)
 simp only [Array.getD_eq_getD_getElem?] at hT
 simp [results, Tryz.results13, go_sem, hT, h0, h1, h2, h3, h4, h5, h6, h7, h8, h9, h10, h11, h12]
theorem wl (p : Addr) (w : World) (hE : jY p w) :
  Calls Tryz.prog 13 #[] w fun e w' => (∃ a cap, e = .returned (.agg #[.slice a dZ.1.L.length cap, .int .i64 dZ.1.lim, .int .i64 dZ.1.mode, .int .i64 dZ.1.A, .int .i64 dZ.1.B, .int .i64 dZ.1.C, .int .i64 dZ.1.D, .int .i64 dZ.1.coast, .int .i64 dZ.1.fr, .int .i64 dZ.2.1, .int .i64 dZ.2.2.1, .int .i64 dZ.2.2.2.1, .int .i64 dZ.2.2.2.2]) ∧ az w' w.heap.size dZ.1.L a cap) ∧ Below w.heap.size w w' := by
 have H0 : Hid (dZ = (ii im 2, (1, 0, 0, 0))) := yz rfl
 have HZ := yz (an w (.cells #[.slice none 0 0, .int .i64 0, .int .i64 0, .int .i64 0, .int .i64 0, .int .i64 0, .int .i64 0, .int .i64 0, .int .i64 0, .int .i64 0, .int .i64 0, .int .i64 0, .int .i64 0] 51))
 have HD := yz (ap w [.slice none 0 0, .int .i64 0, .int .i64 0, .int .i64 0, .int .i64 0, .int .i64 0, .int .i64 0, .int .i64 0, .int .i64 0, .int .i64 0, .int .i64 0, .int .i64 0, .int .i64 0] 51)
 have HE := yz (hE.kept (yy HZ))
 have cN : Hid (∀ W : World, bu p W → Calls Tryz.prog 29 #[.slice (some ⟨W.heap.size, 0, none⟩) 6 6, .int .i64 2] (W.alloc fl) fun e w' => ol w' (W.alloc fl).heap.size (ii im 2) (jM im 2) e ∧ Below (W.alloc fl).heap.size (W.alloc fl) w') := yz (fun W hW => vX im 2 W.heap.size 0 6 p (W.alloc fl) (by decide) (by decide) (by decide) (hW.kept (an W fl)) (rK (yG W)))
 generalize jM im 2 = c0 at *
 obtain ⟨t0, ht0⟩ : ∃ t0, ii im 2 = t0 := ⟨_, rfl⟩
 rw [ht0] at cN H0
 clear ht0
 obtain ⟨L0, i1, i2, i3, i4, i5, i6, i7, i8⟩ := t0
 rw [yy H0]
 dsimp only
 clear hE
 go_enter Tryz.func13, Tryz.ntmps13
 go_upto_region 1 with fail
 generalize w.alloc (.cells #[.slice none 0 0, .int .i64 0, .int .i64 0, .int .i64 0, .int .i64 0, .int .i64 0, .int .i64 0, .int .i64 0, .int .i64 0, .int .i64 0, .int .i64 0, .int .i64 0, .int .i64 0] 51) = W at *
 have hft := fun W2 a2 cap2 => Di W2 a2 L0.length cap2 i1 i2 i3 i4 i5 i6 i7 i8 c0
 go_wp2_with fail
 refine (uy W).mono ?_
 rintro e W1 ⟨rfl, rfl⟩
 go_wp2_with fail
 refine ((yy cN) W (yy HE).1).mono ?_
 rintro e W2 ⟨⟨a2, cap2, rfl, hC⟩, hx⟩
 have hx' := ak (an W fl) hx
 have HC2 := yz (cg hC (show w.heap.size ≤ (W.alloc fl).heap.size by have := (yy HZ).size; simp; omega))
 have HD2 := yz ((yy HD).kept hx')
 have HB2 := yz (ak (yy HZ) hx')
 have HF2 : Hid (∀ x, a2 = some x → x.block ≠ w.heap.size) := yz (fun x e => by have h1 := (bX hC x e).1; have h2 := (yy HD).lt; have h3 := (an W fl).size; omega)
 clear hC hx hx' HD HZ cN HE
 replace hft := hft W2 a2 cap2
 obtain ⟨d0, d1, d2, d3, d4, d5, d6, d7, d8, d9, d10, d11, d12⟩ : W2.cell? ⟨w.heap.size, 0, none⟩ = some (.slice none 0 0) ∧ W2.cell? ⟨w.heap.size, 1, none⟩ = some (.int .i64 0) ∧ W2.cell? ⟨w.heap.size, 2, none⟩ = some (.int .i64 0) ∧ W2.cell? ⟨w.heap.size, 3, none⟩ = some (.int .i64 0) ∧ W2.cell? ⟨w.heap.size, 4, none⟩ = some (.int .i64 0) ∧ W2.cell? ⟨w.heap.size, 5, none⟩ = some (.int .i64 0) ∧ W2.cell? ⟨w.heap.size, 6, none⟩ = some (.int .i64 0) ∧ W2.cell? ⟨w.heap.size, 7, none⟩ = some (.int .i64 0) ∧ W2.cell? ⟨w.heap.size, 8, none⟩ = some (.int .i64 0) ∧ W2.cell? ⟨w.heap.size, 9, none⟩ = some (.int .i64 0) ∧ W2.cell? ⟨w.heap.size, 10, none⟩ = some (.int .i64 0) ∧ W2.cell? ⟨w.heap.size, 11, none⟩ = some (.int .i64 0) ∧ W2.cell? ⟨w.heap.size, 12, none⟩ = some (.int .i64 0) := ⟨(yy HD2).cell 0 _ rfl, (yy HD2).cell 1 _ rfl, (yy HD2).cell 2 _ rfl, (yy HD2).cell 3 _ rfl, (yy HD2).cell 4 _ rfl, (yy HD2).cell 5 _ rfl, (yy HD2).cell 6 _ rfl, (yy HD2).cell 7 _ rfl, (yy HD2).cell 8 _ rfl, (yy HD2).cell 9 _ rfl, (yy HD2).cell 10 _ rfl, (yy HD2).cell 11 _ rfl, (yy HD2).cell 12 _ rfl⟩
 obtain ⟨z0, z1, z2, z3, z4, z5, z6, z7, z8, z9, z10, z11, z12⟩ : W2.frozen? ⟨w.heap.size, 0, none⟩ = false ∧ W2.frozen? ⟨w.heap.size, 1, none⟩ = false ∧ W2.frozen? ⟨w.heap.size, 2, none⟩ = false ∧ W2.frozen? ⟨w.heap.size, 3, none⟩ = false ∧ W2.frozen? ⟨w.heap.size, 4, none⟩ = false ∧ W2.frozen? ⟨w.heap.size, 5, none⟩ = false ∧ W2.frozen? ⟨w.heap.size, 6, none⟩ = false ∧ W2.frozen? ⟨w.heap.size, 7, none⟩ = false ∧ W2.frozen? ⟨w.heap.size, 8, none⟩ = false ∧ W2.frozen? ⟨w.heap.size, 9, none⟩ = false ∧ W2.frozen? ⟨w.heap.size, 10, none⟩ = false ∧ W2.frozen? ⟨w.heap.size, 11, none⟩ = false ∧ W2.frozen? ⟨w.heap.size, 12, none⟩ = false := ⟨(yy HD2).free 0, (yy HD2).free 1, (yy HD2).free 2, (yy HD2).free 3, (yy HD2).free 4, (yy HD2).free 5, (yy HD2).free 6, (yy HD2).free 7, (yy HD2).free 8, (yy HD2).free 9, (yy HD2).free 10, (yy HD2).free 11, (yy HD2).free 12⟩
 go_wp2_with fail
 refine bodyPost_ret (v := .agg #[.slice a2 L0.length cap2, .int .i64 i1, .int .i64 i2, .int .i64 i3, .int .i64 i4, .int .i64 i5, .int .i64 i6, .int .i64 i7, .int .i64 i8, .int .i64 1, .int .i64 0, .int .i64 0, .int .i64 0]) (Ed _ _ w.heap.size _ _ _ _ _ _ _ _ _ _ _ _ _ rfl (qI (yy HD2) (.slice a2 L0.length cap2) (.int .i64 i1) (.int .i64 i2) (.int .i64 i3) (.int .i64 i4) (.int .i64 i5) (.int .i64 i6) (.int .i64 i7) (.int .i64 i8) (.int .i64 1) (.int .i64 0) (.int .i64 0) (.int .i64 0))) rfl ⟨⟨a2, cap2, rfl, ?_⟩, ?_⟩
 ·exact dj (yy HC2) (iw W2 w.heap.size (.slice a2 L0.length cap2) (.int .i64 i1) (.int .i64 i2) (.int .i64 i3) (.int .i64 i4) (.int .i64 i5) (.int .i64 i6) (.int .i64 i7) (.int .i64 i8) (.int .i64 1) (.int .i64 0) (.int .i64 0) (.int .i64 0)) (yy HF2)
 ·exact fY (yy HB2) (iw W2 w.heap.size (.slice a2 L0.length cap2) (.int .i64 i1) (.int .i64 i2) (.int .i64 i3) (.int .i64 i4) (.int .i64 i5) (.int .i64 i6) (.int .i64 i7) (.int .i64 i8) (.int .i64 1) (.int .i64 0) (.int .i64 0) (.int .i64 0)) (Nat.le_refl _)
def zC (d : Tk × U4) (ls : List Ln) : (Tk × U4) × ByteArray := ls.foldl stD (d, ⟨#[]⟩)
theorem zB {d : Tk × U4} {ls : List Ln} {k : Nat} {l : Ln} (h : ls[k]? = some l) : zC d (ls.take (k + 1)) = stD (zC d (ls.take k)) l := by
 unfold zC
 rw [List.take_add_one, h, List.foldl_append]
 rfl
theorem rx : ∀ (L : List Ln) (k : Nat) (l : Ln), L[k]? = some l → (gd L)[3 * k]? = some (fnV (eu l.k)) ∧ (gd L)[3 * k + 1]? = some (bW l.t) ∧ (gd L)[3 * k + 2]? = some (.int .i64 l.n)
 | [], k, l, h => by cases h
 | x :: r, 0, l, h => by
  cases h
  exact ⟨rfl, rfl, rfl⟩
 | x :: r, k + 1, l, h => by
  have ih := rx r k l h
  have e : gd (x :: r) = [fnV (eu x.k), bW x.t, .int .i64 x.n] ++ gd r := rfl
  rw [e, List.getElem?_append_right (by show 3 ≤ _; omega), List.getElem?_append_right (by show 3 ≤ _; omega), List.getElem?_append_right (by show 3 ≤ _; omega)]
  refine ⟨?_, ?_, ?_⟩
  ·rw [show 3 * (k + 1) - List.length [fnV (eu x.k), bW x.t, .int .i64 x.n] = 3 * k by show 3 * (k + 1) - 3 = _; omega]; exact ih.1
  ·rw [show 3 * (k + 1) + 1 - List.length [fnV (eu x.k), bW x.t, .int .i64 x.n] = 3 * k + 1 by show 3 * (k + 1) + 1 - 3 = _; omega]; exact ih.2.1
  ·rw [show 3 * (k + 1) + 2 - List.length [fnV (eu x.k), bW x.t, .int .i64 x.n] = 3 * k + 2 by show 3 * (k + 1) + 2 - 3 = _; omega]; exact ih.2.2
theorem Bi {w : World} {B n c : Nat} {va : Option Addr} {ls : List Ln} (h : w.ownsRow B 79 3 (.slice va n c) ls.length (gd ls)) (hp : 0 < ls.length) : ∃ g, va = some ⟨g, 0, none⟩ ∧ n = ls.length ∧ g < w.heap.size ∧ ∀ k l, ls[k]? = some l → w.cell? ⟨g, k * 3, none⟩ = some (fnV (eu l.k)) ∧ w.cell? ⟨g, k * 3 + 1, none⟩ = some (bW l.t) ∧ w.cell? ⟨g, k * 3 + 2, none⟩ = some (.int .i64 l.n) := by
 rcases h.2 with ⟨h1, h0⟩ | ⟨g, cap, cur, e, hb, hg, h1, h2, h3, h4⟩
 ·omega
 ·injection e with e1 e2 e3
  refine ⟨g, e1, e2, (Array.getElem?_eq_some_iff.1 hg).1, fun k l hk => ?_⟩
  have hkl : k < ls.length := (List.getElem?_eq_some_iff.1 hk).1
  have ha := rx ls k l hk
  have hc : ∀ j v, j < 3 * ls.length → (gd ls)[j]? = some v → w.cell? ⟨g, j, none⟩ = some v := fun j v hj hv => by
   rw [cell_of_row w g j cur _ _ hg]
   rw [← h4, List.getElem?_take, if_pos (by rw [Nat.mul_comm] at hj; exact hj)] at hv
   simpa using hv
  rw [Nat.mul_comm k 3]
  exact ⟨hc _ _ (by omega) ha.1, hc _ _ (by omega) ha.2.1, hc _ _ (by omega) ha.2.2⟩
structure wZ (w : World) (B : Nat) (wr : World) (d : Tk × U4) (a : Option Addr) (cap : Nat) : Prop where
 blk : Blk wr w.heap.size [.slice a d.1.L.length cap, .int .i64 d.1.lim, .int .i64 d.1.mode, .int .i64 d.1.A, .int .i64 d.1.B, .int .i64 d.1.C, .int .i64 d.1.D, .int .i64 d.1.coast, .int .i64 d.1.fr, .int .i64 d.2.1, .int .i64 d.2.2.1, .int .i64 d.2.2.2.1, .int .i64 d.2.2.2.2] 51
 sky : az wr B d.1.L a cap
 bel : Below w.heap.size w wr
theorem wZ.kept {w wr w2 : World} {B : Nat} {d : Tk × U4} {a : Option Addr} {cap : Nat} (h : wZ w B wr d a cap) (hx : Below wr.heap.size wr w2) : wZ w B w2 d a cap := ⟨h.blk.kept hx, h.sky.kept hx, ak h.bel hx⟩
theorem Cg {w W : World} {B : Nat} {d d2 : Tk × U4} {a a2 : Option Addr} {cap cap2 : Nat} (h : wZ w B W d a cap) (hC : az W B d2.1.L a2 cap2) : wZ w B (((((((((((((W.setCell ⟨w.heap.size, 0, none⟩ (.slice a2 d2.1.L.length cap2)).setCell ⟨w.heap.size, 1, none⟩ (.int .i64 d2.1.lim)).setCell ⟨w.heap.size, 2, none⟩ (.int .i64 d2.1.mode)).setCell ⟨w.heap.size, 3, none⟩ (.int .i64 d2.1.A)).setCell ⟨w.heap.size, 4, none⟩ (.int .i64 d2.1.B)).setCell ⟨w.heap.size, 5, none⟩ (.int .i64 d2.1.C)).setCell ⟨w.heap.size, 6, none⟩ (.int .i64 d2.1.D)).setCell ⟨w.heap.size, 7, none⟩ (.int .i64 d2.1.coast)).setCell ⟨w.heap.size, 8, none⟩ (.int .i64 d2.1.fr)).setCell ⟨w.heap.size, 9, none⟩ (.int .i64 d2.2.1)).setCell ⟨w.heap.size, 10, none⟩ (.int .i64 d2.2.2.1)).setCell ⟨w.heap.size, 11, none⟩ (.int .i64 d2.2.2.2.1)).setCell ⟨w.heap.size, 12, none⟩ (.int .i64 d2.2.2.2.2)) d2 a2 cap2 :=
 ⟨qI h.blk (.slice a2 d2.1.L.length cap2) (.int .i64 d2.1.lim) (.int .i64 d2.1.mode) (.int .i64 d2.1.A) (.int .i64 d2.1.B) (.int .i64 d2.1.C) (.int .i64 d2.1.D) (.int .i64 d2.1.coast) (.int .i64 d2.1.fr) (.int .i64 d2.2.1) (.int .i64 d2.2.2.1) (.int .i64 d2.2.2.2.1) (.int .i64 d2.2.2.2.2), World.ownsRow.kept hC (iw W w.heap.size (.slice a2 d2.1.L.length cap2) (.int .i64 d2.1.lim) (.int .i64 d2.1.mode) (.int .i64 d2.1.A) (.int .i64 d2.1.B) (.int .i64 d2.1.C) (.int .i64 d2.1.D) (.int .i64 d2.1.coast) (.int .i64 d2.1.fr) (.int .i64 d2.2.1) (.int .i64 d2.2.2.1) (.int .i64 d2.2.2.2.1) (.int .i64 d2.2.2.2.2)) (oE hC h.blk (by decide)), fY h.bel (iw W w.heap.size (.slice a2 d2.1.L.length cap2) (.int .i64 d2.1.lim) (.int .i64 d2.1.mode) (.int .i64 d2.1.A) (.int .i64 d2.1.B) (.int .i64 d2.1.C) (.int .i64 d2.1.D) (.int .i64 d2.1.coast) (.int .i64 d2.1.fr) (.int .i64 d2.2.1) (.int .i64 d2.2.2.1) (.int .i64 d2.2.2.2.1) (.int .i64 d2.2.2.2.2)) (Nat.le_refl _)⟩
theorem Ao (w : World) (B B3 : Nat) (d : Tk × U4) (a : Option Addr) (cap : Nat) (p : Addr) (ls : List Ln) (va : Option Addr) (n c3 : Nat) (hls : ∀ l ∈ ls, l.k < 7 ∧ l.t.length ≤ 1048576) (hn : ls.length ≤ 40) (hrow : w.ownsRow B3 79 3 (.slice va n c3) ls.length (gd ls)) (hk : aD d.1 = true) (hB : B ≤ w.heap.size) (hC : az w B d.1.L a cap) (hE : jY p w) :
  Calls Tryz.prog 14 #[.agg #[.slice a d.1.L.length cap, .int .i64 d.1.lim, .int .i64 d.1.mode, .int .i64 d.1.A, .int .i64 d.1.B, .int .i64 d.1.C, .int .i64 d.1.D, .int .i64 d.1.coast, .int .i64 d.1.fr, .int .i64 d.2.1, .int .i64 d.2.2.1, .int .i64 d.2.2.2.1, .int .i64 d.2.2.2.2], .slice va n c3] w fun e w' => e = .returned (.string (zC d ls).2) ∧ Below w.heap.size w w' := by
 have hnn : n = ls.length := by
  rcases hrow.2 with ⟨h1, h0⟩ | ⟨g, cp, cur, e, _⟩
  ·injection h1 with _ e2 _
   omega
  ·injection e with _ e2 _
 have HLA := yz (fun h => Bi hrow h)
 have HLS := yz hls
 have HE := yz hE
 have HZ := an w (.cells #[.slice a d.1.L.length cap, .int .i64 d.1.lim, .int .i64 d.1.mode, .int .i64 d.1.A, .int .i64 d.1.B, .int .i64 d.1.C, .int .i64 d.1.D, .int .i64 d.1.coast, .int .i64 d.1.fr, .int .i64 d.2.1, .int .i64 d.2.2.1, .int .i64 d.2.2.2.1, .int .i64 d.2.2.2.2] 51)
 have HST0 : Hid (wZ w B (w.alloc (.cells #[.slice a d.1.L.length cap, .int .i64 d.1.lim, .int .i64 d.1.mode, .int .i64 d.1.A, .int .i64 d.1.B, .int .i64 d.1.C, .int .i64 d.1.D, .int .i64 d.1.coast, .int .i64 d.1.fr, .int .i64 d.2.1, .int .i64 d.2.2.1, .int .i64 d.2.2.2.1, .int .i64 d.2.2.2.2] 51)) d a cap) := yz ⟨ap w _ _, hC.kept HZ, HZ⟩
 subst hnn
 clear hrow hls hE hC HZ
 go_enter Tryz.func14, Tryz.ntmps14
 go_upto_region 1 with fail
 generalize w.alloc (.cells #[.slice a d.1.L.length cap, .int .i64 d.1.lim, .int .i64 d.1.mode, .int .i64 d.1.A, .int .i64 d.1.B, .int .i64 d.1.C, .int .i64 d.1.D, .int .i64 d.1.coast, .int .i64 d.1.fr, .int .i64 d.2.1, .int .i64 d.2.2.1, .int .i64 d.2.2.2.1, .int .i64 d.2.2.2.2] 51) = W0 at *
 go_wp2_with fail
 go_loopw [5, 13] (fun tv iv wr => ∃ (k : Nat) (d' : Tk × U4) (tx : ByteArray) (a' : Option Addr) (cap' : Nat), iv = .int .i64 k ∧ k ≤ ls.length ∧ tv = .string tx ∧ Hid (zC d (ls.take k) = (d', tx)) ∧ Hid (aD d'.1 = true) ∧ tx.size ≤ 71 * k ∧ Hid (wZ w B wr d' a' cap')) (fun _ iv _ => ls.length - (intOf iv).toNat)
 case atStart => exact ⟨0, d, ⟨#[]⟩, a, cap, rfl, Nat.zero_le _, rfl, yz rfl, yz hk, by decide, HST0⟩
 case round =>
  clear HST0
  obtain ⟨k, d', tx, a', cap', rfl, hkn, rfl, HR, HK, hsz, HS⟩ := hrel
  by_cases hkl : k < ls.length
  ·have hkl' : (k : Int) < (ls.length : Int) := by omega
   obtain ⟨l, hl⟩ : ∃ l, ls[k]? = some l := ⟨_, List.getElem?_eq_getElem hkl⟩
   obtain ⟨g, rfl, _, hg, hcs⟩ := (yy HLA) (by omega)
   obtain ⟨c0, c1, c2⟩ := hcs k l hl
   have hlm := yy HLS l (List.mem_of_getElem? hl)
   rw [← (yy HS).bel.cell (p := ⟨g, k * 3, none⟩) hg] at c0
   rw [← (yy HS).bel.cell (p := ⟨g, k * 3 + 1, none⟩) hg] at c1
   rw [← (yy HS).bel.cell (p := ⟨g, k * 3 + 2, none⟩) hg] at c2
   have HRT := yz (zB (d := d) hl)
   clear hl hcs hg
   unfold fnV at c0
   unfold bW at c1
   have cF := BG l.k hlm.1
   have cD := yz (fun (W : World) hB' h1 h2 => Bh W B d' a' cap' p l hlm.1 hlm.2 (yy HK) hB' h1 h2)
   have hz := pi (gt (yy HK)) l
   have HK2 := yz (wN (yy HK) l)
   obtain ⟨tb, htb⟩ : ∃ tb : ByteArray, (⟨l.t.toArray⟩ : ByteArray) = tb := ⟨_, rfl⟩
   obtain ⟨f, hf⟩ : ∃ f, eu l.k = f := ⟨_, rfl⟩
   rw [htb] at c1 cD
   rw [hf] at c0 cD cF
   clear htb hf
   have Z1 := an wr (.cells #[.func (.func f) #[] #[], .string tb, .int .i64 l.n] 79)
   have HX := yz (ap wr [.func (.func f) #[] #[], .string tb, .int .i64 l.n] 79)
   have HS1 := yz ((yy HS).kept Z1)
   unfold stD at HRT
   rw [yy HR] at HRT
   dsimp only at HRT
   generalize gU d' l = R at *
   clear Z1
   go_upto_region 5 with fail
   generalize wr.alloc (.cells #[.func (.func f) #[] #[], .string tb, .int .i64 l.n] 79) = W1 at *
   generalize wr.heap.size = xb at *
   obtain ⟨x0, x1, x2⟩ := js (yy HX)
   obtain ⟨d0, d1, d2, d3, d4, d5, d6, d7, d8, d9, d10, d11, d12⟩ : W1.cell? ⟨w.heap.size, 0, none⟩ = some (.slice a' d'.1.L.length cap') ∧ W1.cell? ⟨w.heap.size, 1, none⟩ = some (.int .i64 d'.1.lim) ∧ W1.cell? ⟨w.heap.size, 2, none⟩ = some (.int .i64 d'.1.mode) ∧ W1.cell? ⟨w.heap.size, 3, none⟩ = some (.int .i64 d'.1.A) ∧ W1.cell? ⟨w.heap.size, 4, none⟩ = some (.int .i64 d'.1.B) ∧ W1.cell? ⟨w.heap.size, 5, none⟩ = some (.int .i64 d'.1.C) ∧ W1.cell? ⟨w.heap.size, 6, none⟩ = some (.int .i64 d'.1.D) ∧ W1.cell? ⟨w.heap.size, 7, none⟩ = some (.int .i64 d'.1.coast) ∧ W1.cell? ⟨w.heap.size, 8, none⟩ = some (.int .i64 d'.1.fr) ∧ W1.cell? ⟨w.heap.size, 9, none⟩ = some (.int .i64 d'.2.1) ∧ W1.cell? ⟨w.heap.size, 10, none⟩ = some (.int .i64 d'.2.2.1) ∧ W1.cell? ⟨w.heap.size, 11, none⟩ = some (.int .i64 d'.2.2.2.1) ∧ W1.cell? ⟨w.heap.size, 12, none⟩ = some (.int .i64 d'.2.2.2.2) := ⟨(yy HS1).blk.cell 0 _ rfl, (yy HS1).blk.cell 1 _ rfl, (yy HS1).blk.cell 2 _ rfl, (yy HS1).blk.cell 3 _ rfl, (yy HS1).blk.cell 4 _ rfl, (yy HS1).blk.cell 5 _ rfl, (yy HS1).blk.cell 6 _ rfl, (yy HS1).blk.cell 7 _ rfl, (yy HS1).blk.cell 8 _ rfl, (yy HS1).blk.cell 9 _ rfl, (yy HS1).blk.cell 10 _ rfl, (yy HS1).blk.cell 11 _ rfl, (yy HS1).blk.cell 12 _ rfl⟩
   go_wp2_with fail
   refine ((yy cD) W1 (Nat.le_trans hB (yy HS1).bel.size) (yy HS1).sky ((yy HE).kept (yy HS1).bel)).mono ?_
   rintro e W2 ⟨hA, hx⟩
   have HS2 := yz ((yy HS1).kept hx)
   clear hx x0 x1 x2 d0 d1 d2 d3 d4 d5 d6 d7 d8 d9 d10 d11 d12 cD cF HX HS1 c0 c1 c2 HS
   have hjx : ∀ (W : World) (x : ByteArray), x.size ≤ 100000 → Calls Tryz.prog 31 #[.string x, .string ⟨#[10]⟩] W fun e w' => e = .returned (.string (x ++ ⟨#[10]⟩)) ∧ Below W.heap.size W w' := fun W x h => iM x ⟨#[10]⟩ W h (by decide)
   rcases hA with ⟨m, hm0, hm1, rfl, hRe⟩ | ⟨a2, cap2, wb, xs, rfl, hC2, hW2, hx4, hxs, hj⟩
   ·have cT := yz (uQ m W2 hm1 ((yy HE).kept (yy HS2).bel).2)
    have hmt : ∀ W : World, (method 393 168 (.agg #[.int .i64 (m : Int)]) "loop.example/g00577/impl.text").run Tryz.prog W = .ok (216, .agg #[.int .i64 (m : Int)]) W := fun _ => by kernel_rfl
    have hta : ∀ W : World, (Instr.typeAssert (.iface 168 (.agg #[.int .i64 (m : Int)])) 83 87 true).run Tryz.prog W = .ok (.tuple #[.agg #[.slice none 0 0, .int .i64 0, .int .i64 0, .int .i64 0, .int .i64 0, .int .i64 0, .int .i64 0, .int .i64 0, .int .i64 0, .int .i64 0, .int .i64 0, .int .i64 0, .int .i64 0, .slice none 0 0], .bool false]) W := fun _ => by kernel_rfl
    rw [hRe] at HRT hz HK2
    dsimp only at HRT hz HK2
    clear hRe
    generalize fR m = et at *
    have cJ1 := yz (fun W => hjx W et (by omega))
    have hz2 : (et ++ ⟨#[10]⟩).size = et.size + 1 := by rw [ByteArray.size_append]; rfl
    have cJ2 := yz (fun W => iM tx (et ++ ⟨#[10]⟩) W (by omega) (by omega))
    have hz3 : (tx ++ (et ++ ⟨#[10]⟩)).size ≤ 71 * (k + 1) := by rw [ByteArray.size_append, hz2]; omega
    generalize tx ++ (et ++ ⟨#[10]⟩) = tx2 at *
    generalize et ++ ⟨#[10]⟩ = et2 at *
    clear hz2
    go_wp2_with fail
    refine (yy cT).mono ?_
    rintro e W3 ⟨rfl, hx⟩
    have HS3 := yz ((yy HS2).kept hx)
    clear hx HS2 cT
    go_wp2_with fail
    refine ((yy cJ1) W3).mono ?_
    rintro e W4 ⟨rfl, hx⟩
    have HS4 := yz ((yy HS3).kept hx)
    clear hx HS3 cJ1
    go_wp2_with fail
    refine ((yy cJ2) W4).mono ?_
    rintro e W5 ⟨rfl, hx⟩
    have HS5 := yz ((yy HS4).kept hx)
    clear hx HS4 cJ2
    have HS6 := yz ((yy HS5).kept (an W5 (.cells #[.slice none 0 0, .int .i64 0, .int .i64 0, .int .i64 0, .int .i64 0, .int .i64 0, .int .i64 0, .int .i64 0, .int .i64 0, .int .i64 0, .int .i64 0, .int .i64 0, .int .i64 0, .slice none 0 0] 87)))
    go_wp2_with fail
    go_roundw
    case rel => exact ⟨k + 1, d', tx2, a', cap', by go_num, by omega, rfl, HRT, HK2, hz3, HS6⟩
    case measure => simp [intOf] <;> omega
   ·obtain ⟨d2, x2⟩ := R
    dsimp only at HRT hz HK2 hC2 hj
    have cT := yz (Az a2 d2.1.L.length cap2 d2.1.lim d2.1.mode d2.1.A d2.1.B d2.1.C d2.1.D d2.1.coast d2.1.fr d2.2.1 d2.2.2.1 d2.2.2.2.1 d2.2.2.2.2 wb xs W2 hW2 hxs hx4)
    rw [hj] at cT
    clear hj hW2 hxs hx4
    unfold rpV
    dsimp only
    generalize xs.length = nx at *
    have hmt : ∀ W : World, (method 393 87 (.agg #[.slice a2 d2.1.L.length cap2, .int .i64 d2.1.lim, .int .i64 d2.1.mode, .int .i64 d2.1.A, .int .i64 d2.1.B, .int .i64 d2.1.C, .int .i64 d2.1.D, .int .i64 d2.1.coast, .int .i64 d2.1.fr, .int .i64 d2.2.1, .int .i64 d2.2.2.1, .int .i64 d2.2.2.2.1, .int .i64 d2.2.2.2.2, .slice (some ⟨wb, 0, none⟩) nx nx]) "loop.example/g00577/impl.text").run Tryz.prog W = .ok (214, .agg #[.slice a2 d2.1.L.length cap2, .int .i64 d2.1.lim, .int .i64 d2.1.mode, .int .i64 d2.1.A, .int .i64 d2.1.B, .int .i64 d2.1.C, .int .i64 d2.1.D, .int .i64 d2.1.coast, .int .i64 d2.1.fr, .int .i64 d2.2.1, .int .i64 d2.2.2.1, .int .i64 d2.2.2.2.1, .int .i64 d2.2.2.2.2, .slice (some ⟨wb, 0, none⟩) nx nx]) W := fun _ => by kernel_rfl
    have hta : ∀ W : World, (Instr.typeAssert (.iface 87 (.agg #[.slice a2 d2.1.L.length cap2, .int .i64 d2.1.lim, .int .i64 d2.1.mode, .int .i64 d2.1.A, .int .i64 d2.1.B, .int .i64 d2.1.C, .int .i64 d2.1.D, .int .i64 d2.1.coast, .int .i64 d2.1.fr, .int .i64 d2.2.1, .int .i64 d2.2.2.1, .int .i64 d2.2.2.2.1, .int .i64 d2.2.2.2.2, .slice (some ⟨wb, 0, none⟩) nx nx])) 83 87 true).run Tryz.prog W = .ok (.tuple #[.agg #[.slice a2 d2.1.L.length cap2, .int .i64 d2.1.lim, .int .i64 d2.1.mode, .int .i64 d2.1.A, .int .i64 d2.1.B, .int .i64 d2.1.C, .int .i64 d2.1.D, .int .i64 d2.1.coast, .int .i64 d2.1.fr, .int .i64 d2.2.1, .int .i64 d2.2.2.1, .int .i64 d2.2.2.2.1, .int .i64 d2.2.2.2.2, .slice (some ⟨wb, 0, none⟩) nx nx], .bool true]) W := fun _ => by kernel_rfl
    have cJ1 := yz (fun W => hjx W x2 (by omega))
    have hz2 : (x2 ++ ⟨#[10]⟩).size = x2.size + 1 := by rw [ByteArray.size_append]; rfl
    have cJ2 := yz (fun W => iM tx (x2 ++ ⟨#[10]⟩) W (by omega) (by omega))
    have hz3 : (tx ++ (x2 ++ ⟨#[10]⟩)).size ≤ 71 * (k + 1) := by rw [ByteArray.size_append, hz2]; omega
    generalize tx ++ (x2 ++ ⟨#[10]⟩) = tx2 at *
    generalize x2 ++ ⟨#[10]⟩ = et2 at *
    have HC2 := yz hC2
    clear hz2 hC2
    go_wp2_with fail
    refine (yy cT).mono ?_
    rintro e W3 ⟨rfl, hx⟩
    have HS3 := yz ((yy HS2).kept hx)
    have HC3 := yz ((yy HC2).kept hx)
    clear hx HS2 cT HC2
    go_wp2_with fail
    refine ((yy cJ1) W3).mono ?_
    rintro e W4 ⟨rfl, hx⟩
    have HS4 := yz ((yy HS3).kept hx)
    have HC4 := yz ((yy HC3).kept hx)
    clear hx HS3 cJ1 HC3
    go_wp2_with fail
    refine ((yy cJ2) W4).mono ?_
    rintro e W5 ⟨rfl, hx⟩
    have HS5 := yz ((yy HS4).kept hx)
    have HC5 := yz ((yy HC4).kept hx)
    clear hx HS4 cJ2 HC4
    have hy := an W5 (.cells #[.slice a2 d2.1.L.length cap2, .int .i64 d2.1.lim, .int .i64 d2.1.mode, .int .i64 d2.1.A, .int .i64 d2.1.B, .int .i64 d2.1.C, .int .i64 d2.1.D, .int .i64 d2.1.coast, .int .i64 d2.1.fr, .int .i64 d2.2.1, .int .i64 d2.2.2.1, .int .i64 d2.2.2.2.1, .int .i64 d2.2.2.2.2, .slice (some ⟨wb, 0, none⟩) nx nx] 87)
    have HS6 := yz ((yy HS5).kept hy)
    have HC6 := yz ((yy HC5).kept hy)
    have HY := yz (ap W5 [.slice a2 d2.1.L.length cap2, .int .i64 d2.1.lim, .int .i64 d2.1.mode, .int .i64 d2.1.A, .int .i64 d2.1.B, .int .i64 d2.1.C, .int .i64 d2.1.D, .int .i64 d2.1.coast, .int .i64 d2.1.fr, .int .i64 d2.2.1, .int .i64 d2.2.2.1, .int .i64 d2.2.2.2.1, .int .i64 d2.2.2.2.2, .slice (some ⟨wb, 0, none⟩) nx nx] 87)
    clear hy HS5 HC5
    go_upto_region 8 with fail
    generalize W5.alloc (.cells #[.slice a2 d2.1.L.length cap2, .int .i64 d2.1.lim, .int .i64 d2.1.mode, .int .i64 d2.1.A, .int .i64 d2.1.B, .int .i64 d2.1.C, .int .i64 d2.1.D, .int .i64 d2.1.coast, .int .i64 d2.1.fr, .int .i64 d2.2.1, .int .i64 d2.2.2.1, .int .i64 d2.2.2.2.1, .int .i64 d2.2.2.2.2, .slice (some ⟨wb, 0, none⟩) nx nx] 87) = W6 at *
    generalize W5.heap.size = yb at *
    obtain ⟨y0, y1, y2, y3, y4, y5, y6, y7, y8, y9, y10, y11, y12⟩ : W6.cell? ⟨yb, 0, none⟩ = some (.slice a2 d2.1.L.length cap2) ∧ W6.cell? ⟨yb, 1, none⟩ = some (.int .i64 d2.1.lim) ∧ W6.cell? ⟨yb, 2, none⟩ = some (.int .i64 d2.1.mode) ∧ W6.cell? ⟨yb, 3, none⟩ = some (.int .i64 d2.1.A) ∧ W6.cell? ⟨yb, 4, none⟩ = some (.int .i64 d2.1.B) ∧ W6.cell? ⟨yb, 5, none⟩ = some (.int .i64 d2.1.C) ∧ W6.cell? ⟨yb, 6, none⟩ = some (.int .i64 d2.1.D) ∧ W6.cell? ⟨yb, 7, none⟩ = some (.int .i64 d2.1.coast) ∧ W6.cell? ⟨yb, 8, none⟩ = some (.int .i64 d2.1.fr) ∧ W6.cell? ⟨yb, 9, none⟩ = some (.int .i64 d2.2.1) ∧ W6.cell? ⟨yb, 10, none⟩ = some (.int .i64 d2.2.2.1) ∧ W6.cell? ⟨yb, 11, none⟩ = some (.int .i64 d2.2.2.2.1) ∧ W6.cell? ⟨yb, 12, none⟩ = some (.int .i64 d2.2.2.2.2) := ⟨(yy HY).cell 0 _ rfl, (yy HY).cell 1 _ rfl, (yy HY).cell 2 _ rfl, (yy HY).cell 3 _ rfl, (yy HY).cell 4 _ rfl, (yy HY).cell 5 _ rfl, (yy HY).cell 6 _ rfl, (yy HY).cell 7 _ rfl, (yy HY).cell 8 _ rfl, (yy HY).cell 9 _ rfl, (yy HY).cell 10 _ rfl, (yy HY).cell 11 _ rfl, (yy HY).cell 12 _ rfl⟩
    obtain ⟨e0, e1, e2, e3, e4, e5, e6, e7, e8, e9, e10, e11, e12⟩ : W6.cell? ⟨w.heap.size, 0, none⟩ = some (.slice a' d'.1.L.length cap') ∧ W6.cell? ⟨w.heap.size, 1, none⟩ = some (.int .i64 d'.1.lim) ∧ W6.cell? ⟨w.heap.size, 2, none⟩ = some (.int .i64 d'.1.mode) ∧ W6.cell? ⟨w.heap.size, 3, none⟩ = some (.int .i64 d'.1.A) ∧ W6.cell? ⟨w.heap.size, 4, none⟩ = some (.int .i64 d'.1.B) ∧ W6.cell? ⟨w.heap.size, 5, none⟩ = some (.int .i64 d'.1.C) ∧ W6.cell? ⟨w.heap.size, 6, none⟩ = some (.int .i64 d'.1.D) ∧ W6.cell? ⟨w.heap.size, 7, none⟩ = some (.int .i64 d'.1.coast) ∧ W6.cell? ⟨w.heap.size, 8, none⟩ = some (.int .i64 d'.1.fr) ∧ W6.cell? ⟨w.heap.size, 9, none⟩ = some (.int .i64 d'.2.1) ∧ W6.cell? ⟨w.heap.size, 10, none⟩ = some (.int .i64 d'.2.2.1) ∧ W6.cell? ⟨w.heap.size, 11, none⟩ = some (.int .i64 d'.2.2.2.1) ∧ W6.cell? ⟨w.heap.size, 12, none⟩ = some (.int .i64 d'.2.2.2.2) := ⟨(yy HS6).blk.cell 0 _ rfl, (yy HS6).blk.cell 1 _ rfl, (yy HS6).blk.cell 2 _ rfl, (yy HS6).blk.cell 3 _ rfl, (yy HS6).blk.cell 4 _ rfl, (yy HS6).blk.cell 5 _ rfl, (yy HS6).blk.cell 6 _ rfl, (yy HS6).blk.cell 7 _ rfl, (yy HS6).blk.cell 8 _ rfl, (yy HS6).blk.cell 9 _ rfl, (yy HS6).blk.cell 10 _ rfl, (yy HS6).blk.cell 11 _ rfl, (yy HS6).blk.cell 12 _ rfl⟩
    obtain ⟨z0, z1, z2, z3, z4, z5, z6, z7, z8, z9, z10, z11, z12⟩ : W6.frozen? ⟨w.heap.size, 0, none⟩ = false ∧ W6.frozen? ⟨w.heap.size, 1, none⟩ = false ∧ W6.frozen? ⟨w.heap.size, 2, none⟩ = false ∧ W6.frozen? ⟨w.heap.size, 3, none⟩ = false ∧ W6.frozen? ⟨w.heap.size, 4, none⟩ = false ∧ W6.frozen? ⟨w.heap.size, 5, none⟩ = false ∧ W6.frozen? ⟨w.heap.size, 6, none⟩ = false ∧ W6.frozen? ⟨w.heap.size, 7, none⟩ = false ∧ W6.frozen? ⟨w.heap.size, 8, none⟩ = false ∧ W6.frozen? ⟨w.heap.size, 9, none⟩ = false ∧ W6.frozen? ⟨w.heap.size, 10, none⟩ = false ∧ W6.frozen? ⟨w.heap.size, 11, none⟩ = false ∧ W6.frozen? ⟨w.heap.size, 12, none⟩ = false := ⟨(yy HS6).blk.free 0, (yy HS6).blk.free 1, (yy HS6).blk.free 2, (yy HS6).blk.free 3, (yy HS6).blk.free 4, (yy HS6).blk.free 5, (yy HS6).blk.free 6, (yy HS6).blk.free 7, (yy HS6).blk.free 8, (yy HS6).blk.free 9, (yy HS6).blk.free 10, (yy HS6).blk.free 11, (yy HS6).blk.free 12⟩
    have HS7 := yz (Cg (yy HS6) (yy HC6))
    go_wp2_with fail
    go_roundw
    case rel => exact ⟨k + 1, d2, tx2, a2, cap2, by go_num, by omega, rfl, HRT, HK2, hz3, HS7⟩
    case measure => simp [intOf] <;> omega
  ·have hke : k = ls.length := by omega
   subst hke
   have hkl' : ¬ (ls.length : Int) < (ls.length : Int) := by omega
   rw [List.take_length] at HR
   go_wp2_with fail
   go_ret
   rw [yy HR]
   exact ⟨rfl, (yy HS).bel⟩
theorem wR (s : ByteArray) : (fE s ≠ 0 ∧ eA s = []) ∨ (fE s = 0 ∧ fZ s = 0) := by
 unfold fE eA fZ
 split
 ·exact .inl ⟨by decide, rfl⟩
 ·cases fX s with
  | inl ls => exact .inr ⟨rfl, rfl⟩
  | inr i => exact .inl ⟨(by show (3 : Int) ≠ 0; decide), rfl⟩
theorem Ac {w : World} {B m k : Nat} {t : TypeId} {v : Value} {xs : List Value} (h : w.ownsRow B t m v k xs) : ∃ a n c, v = .slice a n c := by
 rcases h.2 with ⟨rfl, _⟩ | ⟨g, cp, cur, rfl, _⟩
 ·exact ⟨_, _, _, rfl⟩
 ·exact ⟨_, _, _, rfl⟩
theorem Bj (s : ByteArray) : jj s = (zC dZ (eA s)).2 := rfl
theorem oB (s : ByteArray) (p : Addr) (w : World) (hs : s.size ≤ 1048576) (hm : rp w) (hE : jY p w) :
  Calls Tryz.prog 5 #[.string s] w fun e w' => e = .returned (.agg #[.string (jj s), .int .i64 (fZ s), .int .i64 (fE s)]) ∧ Below w.heap.size w w' := by
 have HR0 := yz (ap w [.string ⟨#[]⟩, .int .i64 0, .int .i64 0] 23)
 have HB0 := yz (an w (.cells #[.string ⟨#[]⟩, .int .i64 0, .int .i64 0] 23))
 have cR := yz (ul s (w.alloc (.cells #[.string ⟨#[]⟩, .int .i64 0, .int .i64 0] 23)) hs (hm.kept (yy HB0)))
 have HDC := yz (wR s)
 have HOK := yz (zL hs)
 have HTX := yz (Bj s)
 have HE0 := yz (hE.kept (yy HB0))
 have htk := vo
 unfold DL at cR
 generalize jj s = tx at *
 generalize fZ s = n at *
 generalize fE s = c at *
 generalize eA s = ls at *
 clear hm hE hs
 go_enter Tryz.func5, Tryz.ntmps5
 go_wp2_with fail
 refine (yy cR).mono ?_
 rintro e W1 ⟨⟨v, rfl, hrow⟩, hx⟩
 obtain ⟨va, nn, c3, rfl⟩ := Ac hrow
 have hy := an W1 (.cells #[.string ⟨#[]⟩, .int .i64 n, .int .i64 c] 23)
 have HB2 := yz (ak (ak (yy HB0) hx) hy)
 have HR2 := yz (((yy HR0).kept hx).kept hy)
 have HX := yz (ap W1 [.string ⟨#[]⟩, .int .i64 n, .int .i64 c] 23)
 have HW := yz (bm hrow hy)
 have HE2 := yz (((yy HE0).kept hx).kept hy)
 clear hx hy cR hrow HR0 HE0
 go_upto_region 2 with fail
 generalize W1.alloc (.cells #[.string ⟨#[]⟩, .int .i64 n, .int .i64 c] 23) = W2 at *
 generalize W1.heap.size = xb at *
 obtain ⟨x0, x1, x2⟩ := js (yy HX)
 rcases yy HDC with ⟨hc, hls⟩ | ⟨hc, hn⟩
 ·have HT0 : Hid (tx = ⟨#[]⟩) := yz (by rw [yy HTX, hls]; rfl)
  have hc' : (c == 0) = false := by simpa using hc
  clear hls
  have r0 := (yy HR2).cell 0 _ rfl
  have f0 := (yy HR2).free 0
  have r1 := (yy HR2).cell 1 _ rfl
  have f1 := (yy HR2).free 1
  have r2 := (yy HR2).cell 2 _ rfl
  have f2 := (yy HR2).free 2
  go_wp2_with fail
  refine bodyPost_ret (v := .agg #[.string ⟨#[]⟩, .int .i64 n, .int .i64 c]) ?_ rfl ⟨by rw [yy HT0], ?_⟩
  ·have h := (((yy HR2).set 0 (.string ⟨#[]⟩)).set 1 (.int .i64 n)).set 2 (.int .i64 c)
   obtain ⟨h0, h1, h2⟩ := js (h)
   simp [results, Tryz.results5, go_sem, h0, h1, h2]
  ·exact ((((yy HB2).setCell (Nat.le_refl _) _).setCell (Nat.le_refl _) _).setCell (Nat.le_refl _) _)
 ·subst hc hn
  have HTK := yz htk
  clear htk
  go_wp2_with fail
  refine (wl p W2 (yy HE2)).mono ?_
  rintro e W3 ⟨⟨a3, cap3, rfl, hC⟩, hx⟩
  have HC3 := yz hC
  have HW3 := yz (bm (yy HW) hx)
  have HB3 := yz (ak (yy HB2) hx)
  have HR3 := yz ((yy HR2).kept hx)
  have HE3 := yz ((yy HE2).kept hx)
  have hsz := hx.size
  clear hx hC HW HB2 HR2 HE2 x0 x1 x2
  have cT := yz (Ao W3 W2.heap.size _ dZ a3 cap3 p ls va nn c3 (yy HOK).2 (yy HOK).1 (yy HW3) (yy HTK) hsz (yy HC3) (yy HE3))
  rw [← yy HTX] at cT
  generalize dZ = dd at *
  go_wp2_with fail
  refine (yy cT).mono ?_
  rintro e W4 ⟨rfl, hx⟩
  have HB4 := yz (ak (yy HB3) hx)
  have HR4 := yz ((yy HR3).kept hx)
  clear hx HB3 HR3 cT
  have r0 := (yy HR4).cell 0 _ rfl
  have f0 := (yy HR4).free 0
  have r1 := (yy HR4).cell 1 _ rfl
  have f1 := (yy HR4).free 1
  have r2 := (yy HR4).cell 2 _ rfl
  have f2 := (yy HR4).free 2
  go_wp2_with fail
  refine bodyPost_ret (v := .agg #[.string tx, .int .i64 0, .int .i64 0]) ?_ rfl ⟨rfl, ?_⟩
  ·have h := (((yy HR4).set 0 (.string tx)).set 1 (.int .i64 0)).set 2 (.int .i64 0)
   obtain ⟨h0, h1, h2⟩ := js (h)
   simp [results, Tryz.results5, go_sem, h0, h1, h2]
  ·exact ((((yy HB4).setCell (Nat.le_refl _) _).setCell (Nat.le_refl _) _).setCell (Nat.le_refl _) _)
theorem pf (s : ByteArray) (hz : s.size ≤ maxLen) (w : World) (hE : ∃ p, jY p w) (hm : rp w) :
  Calls Tryz.prog 3 #[.string s] w fun e w' => e = .returned (.bool true) ∧ Below w.heap.size w w' := by
 by_cases hb : 1048576 < s.size
 ·have hb' : (1048576 : Int) < (s.size : Int) := by omega
  go_enter Tryz.func3, Tryz.ntmps3
  go_wp2
  go_ret
  exact ⟨rfl, Below.refl _ _⟩
 have hb' : ¬ (1048576 : Int) < (s.size : Int) := by omega
 have cS := yz (ox s w (by omega))
 obtain ⟨p, hE⟩ := hE
 have HE := yz hE
 have cI := yz (fun W h h2 => oB s p W (by omega) h h2)
 generalize jj s = tx at *
 generalize fZ s = n at *
 generalize fE s = c at *
 have HM := yz hm
 clear hm hE
 go_enter Tryz.func3, Tryz.ntmps3
 go_wp2_with fail
 refine (yy cS).mono ?_
 rintro e W1 ⟨rfl, hx⟩
 have hy := an W1 (.cells #[.string tx, .int .i64 n, .int .i64 c] 23)
 have HB2 := yz (ak hx hy)
 have HX := yz (ap W1 [.string tx, .int .i64 n, .int .i64 c] 23)
 clear hx hy cS
 go_wp2_with fail
 refine ((yy cI) _ ((yy HM).kept (yy HB2)) ((yy HE).kept (yy HB2))).mono ?_
 rintro e W2 ⟨rfl, hx⟩
 have hy := an W2 (.cells #[.string tx, .int .i64 n, .int .i64 c] 23)
 have HB3 := yz (ak (ak (yy HB2) hx) hy)
 have HX2 := yz (((yy HX).kept hx).kept hy)
 have y0 := (ap W2 [.string tx, .int .i64 n, .int .i64 c] 23).cell 0 _ rfl
 have y1 := (ap W2 [.string tx, .int .i64 n, .int .i64 c] 23).cell 1 _ rfl
 have y2 := (ap W2 [.string tx, .int .i64 n, .int .i64 c] 23).cell 2 _ rfl
 obtain ⟨x0, x1, x2⟩ := js (yy HX2)
 clear hx hy cI
 go_wp2_with fail
 refine (pJ tx n c _).mono ?_
 rintro e W3 ⟨rfl, hx⟩
 have HB4 := yz (ak (yy HB3) hx)
 clear hx y0 y1 y2 x0 x1 x2
 go_wp2_with fail
 go_ret
 exact ⟨rfl, yy HB4⟩
end
end Go.Proofs.YtlleafjdgblhcaaGreatDoor
