/- Several texts in one: DtH, DrX. -/
import Derived.Test.YtlleafjdgblhcaaGreatDoorQDeskRunOwn44
import Derived.Test.YtlleafjdgblhcaaGreatDoorQDeskRunOwn18
import Derived.Test.YtlleafjdgblhcaaGreatDoorQDeskRunOwn1
import Derived.Test.YtlleafjdgblhcaaGreatDoorQDeskRunOwn28
namespace Go.Proofs.YtlleafjdgblhcaaGreatDoor
set_option linter.unusedVariables false
set_option linter.unusedSimpArgs false
set_option maxRecDepth 100000
set_option maxHeartbeats 8000000
section
open Go.RowKit Go.Sort
def IdR (w : World) (aI : Option Addr) (I : List Int) : Prop := I = [] ∨ ∃ g, aI = some ⟨g, 0, none⟩ ∧ g < w.heap.size ∧ ∀ k, k < I.length → w.cell? ⟨g, k, none⟩ = some (.int .i64 (I.getD k 0))
theorem IdR.kept {w w' : World} {aI : Option Addr} {I : List Int} (h : IdR w aI I) (hB : Below w.heap.size w w') : IdR w' aI I := by
 rcases h with h | ⟨g, h1, h2, h3⟩
 ·exact .inl h
 ·exact .inr ⟨g, h1, Nat.lt_of_lt_of_le h2 hB.size, fun k hk => by rw [hB.cell (p := ⟨g, k, none⟩) h2]; exact h3 k hk⟩
theorem IdR.put3 {w : World} {aI : Option Addr} {I : List Int} (h : IdR w aI I) {yb : Nat} (hf : ∀ x, aI = some x → x.block ≠ yb) (x0 x1 x2 : Value) : IdR (((w.setCell ⟨yb, 0, none⟩ x0).setCell ⟨yb, 1, none⟩ x1).setCell ⟨yb, 2, none⟩ x2) aI I := by
 rcases h with h | ⟨g, h1, h2, h3⟩
 ·exact .inl h
 ·have hne : g ≠ yb := hf _ h1
  refine .inr ⟨g, h1, by simpa using h2, fun k hk => ?_⟩
  rw [World.cell?_setCell_far _ _ _ _ (Ne.symm hne), World.cell?_setCell_far _ _ _ _ (Ne.symm hne), World.cell?_setCell_far _ _ _ _ (Ne.symm hne)]
  exact h3 k hk
theorem wK {w' : World} {B : Nat} {I : List Int} {cnt code : Int} {e : Ending} (h : Dk w' B I cnt code e) : ∃ aI cI, e = .returned (.agg #[.slice aI I.length cI, .int .i64 cnt, .int .i64 code]) ∧ IdR w' aI I ∧ ∀ x, aI = some x → B ≤ x.block ∧ x.block < w'.heap.size := by
 obtain ⟨v, rfl, h⟩ := h
 rcases h with ⟨h1, rfl⟩ | ⟨g, rfl, hB, hr⟩
 ·subst h1
  exact ⟨none, 0, rfl, .inl rfl, fun x e => by cases e⟩
 ·refine ⟨some ⟨g, 0, none⟩, I.length, rfl, .inr ⟨g, rfl, hr.lt, fun k hk => ?_⟩, fun x e => by cases e; exact ⟨hB, hr.lt⟩⟩
  exact hr.cell (j := k) (by omega)
theorem zl {W : World} {xb : Nat} {t : TypeId} {v0 v1 v2 : Value} (h : Blk W xb [v0, v1, v2] t) (x0 x1 x2 : Value) : Blk (((W.setCell ⟨xb, 0, none⟩ x0).setCell ⟨xb, 1, none⟩ x1).setCell ⟨xb, 2, none⟩ x2) xb [x0, x1, x2] t := Blk.set (Blk.set (Blk.set h 0 x0) 1 x1) 2 x2
theorem iE {n : Nat} {w W : World} {xb : Nat} (h : Below n w W) (hx : n ≤ xb) (x0 x1 x2 : Value) : Below n w (((W.setCell ⟨xb, 0, none⟩ x0).setCell ⟨xb, 1, none⟩ x1).setCell ⟨xb, 2, none⟩ x2) := ((h.setCell hx _).setCell hx _).setCell hx _
def yL (W : World) (I : List Int) (cnt code : Int) (sv : Value) (wx : World) : Prop := ∃ yb aI cI, sv = .pointer (some ⟨yb, 0, none⟩) ∧ Blk wx yb [.slice aI I.length cI, .int .i64 cnt, .int .i64 code] 69 ∧ IdR wx aI I ∧ Below W.heap.size W wx
theorem jV {W V : World} {yb : Nat} {I : List Int} {cnt code : Int} {aI : Option Addr} {cI : Nat} {v0 v1 v2 : Value} (hY : Blk V yb [v0, v1, v2] 69) (hR : IdR V aI I) (hf : ∀ x, aI = some x → x.block ≠ yb) (hB : Below W.heap.size W V) (hb : W.heap.size ≤ yb) : yL W I cnt code (.pointer (some ⟨yb, 0, none⟩)) (((V.setCell ⟨yb, 0, none⟩ (.slice aI I.length cI)).setCell ⟨yb, 1, none⟩ (.int .i64 cnt)).setCell ⟨yb, 2, none⟩ (.int .i64 code)) :=
 ⟨yb, aI, cI, rfl, zl hY _ _ _, hR.put3 hf _ _ _, iE hB hb _ _ _⟩
theorem AA (xs : List ByteArray) (B : Nat) (v : Value) (sep : ByteArray) (w : World) (h : w.ownsRow B 9 1 v xs.length (xs.map .string)) (hs : sep.size ≤ 10) (hm : ∀ x ∈ xs, x.size ≤ 1000) (hl : xs.length ≤ 400) :
  Calls Tryz.prog 104 #[v, .string sep] w fun e w' => e = .returned (.string (fO xs sep)) ∧ Below w.heap.size w w' := by
 rcases h.2 with ⟨rfl, h0⟩ | ⟨g, cap, cur, rfl, hb, hg, h1, h2, h3, h4⟩
 ·obtain rfl : xs = [] := List.length_eq_zero_iff.1 h0
  exact (strings_Join_none none 0 sep w).mono fun e w' ⟨he, hw⟩ => ⟨by rw [he]; rfl, by rw [hw]; exact Below.refl _ _⟩
 ·refine strings_Join g 0 cap xs sep w (fun j x hj => ?_) (Array.getElem?_eq_some_iff.1 hg).1 (by omega) h1 ?_
  ·rw [Nat.zero_add, cell_of_row w g j cur _ _ hg]
   have hjl : j < xs.length := (List.getElem?_eq_some_iff.1 hj).1
   have e : (xs.map Value.string)[j]? = some (.string x) := by rw [List.getElem?_map, hj]; rfl
   rw [← h4, List.getElem?_take, if_pos (by omega)] at e
   simpa using e
  ·have h5 := sh xs sep 1000 400 hm hl
   have h6 : (sep.size + 1000) * 400 ≤ 1010 * 400 := Nat.mul_le_mul_right _ (by omega)
   omega
theorem Br (w : World) (B : Nat) (t : Tk) (u : U4) (a : Option Addr) (cap : Nat) (p : Addr) (tx : ByteArray) (n : Int) (hk : aD t = true) (hB : B ≤ w.heap.size) (hC : az w B t.L a cap) (hE : jY p w) :
  Calls Tryz.prog 76 #[.agg #[.slice a t.L.length cap, .int .i64 t.lim, .int .i64 t.mode, .int .i64 t.A, .int .i64 t.B, .int .i64 t.C, .int .i64 t.D, .int .i64 t.coast, .int .i64 t.fr, .int .i64 u.1, .int .i64 u.2.1, .int .i64 u.2.2.1, .int .i64 u.2.2.2], .agg #[.string tx, .int .i64 n]] w fun e w' => Ans w' B (t, u) ((t, u), ti t u n) e ∧ Below w.heap.size w w' := by
 obtain ⟨i0, hinf, hz0, hz1, hz2⟩ := rD
 have hm8 : 400 ≤ maxLen := by decide +kernel
 have hmx : maxLen ≤ 9223372036854775807 := by decide +kernel
 have hn : t.L.length ≤ 1048576 := Nat.le_trans (gt hk).1 (by decide)
 have hcp := gg hC
 have HZ := yz (aO w (.cells #[.slice a t.L.length cap, .int .i64 t.lim, .int .i64 t.mode, .int .i64 t.A, .int .i64 t.B, .int .i64 t.C, .int .i64 t.D, .int .i64 t.coast, .int .i64 t.fr, .int .i64 u.1, .int .i64 u.2.1, .int .i64 u.2.2.1, .int .i64 u.2.2.2] 51) (.cells #[.string tx, .int .i64 n] 77))
 have hC0 := hC.kept (yy HZ)
 have hE0 := hE.kept (yy HZ)
 have hB2 := Nat.le_trans hB (yy HZ).size
 have HSB : Hid (ti t u n = if bn t.L (aX t.L u.1 u.2.1 u.2.2.1 u.2.2.2 n) = 0 then ji (ba t.L (aX t.L u.1 u.2.1 u.2.2.1 u.2.2.2 n)) (ba t.L (aX t.L u.1 u.2.1 u.2.2.1 u.2.2.2 n)).length else fR (bn t.L (aX t.L u.1 u.2.1 u.2.2.1 u.2.2.2 n)).toNat) := yz rfl
 generalize ti t u n = R at *
 have hs6 := gR t.L u.1 u.2.1 u.2.2.1 u.2.2.2 n
 have hks := ke t.L (aX t.L u.1 u.2.1 u.2.2.1 u.2.2.2 n)
 obtain ⟨hil, his⟩ := jn t.L (aX t.L u.1 u.2.1 u.2.2.1 u.2.2.2 n)
 have HIS := yz his
 have HJI := yz (fun k hk' => rO (ba t.L (aX t.L u.1 u.2.1 u.2.2.1 u.2.2.2 n)) (fun x hx => (his x hx).1) k hk')
 clear his
 have cS := yz (fun (W : World) hB' h1 h2 => pG W B t u a cap p n hk hB' h1 h2)
 have cI := yz (fun (W : World) br dr => mx t.L (aX t.L u.1 u.2.1 u.2.2.1 u.2.2.2 n) a br cap dr p W hn (by omega) hcp.1 (by omega))
 generalize aX t.L u.1 u.2.1 u.2.2.1 u.2.2.2 n = S at *
 obtain ⟨u1, u2, u3, u4⟩ := u
 obtain ⟨L, lim, mode, A, B', C, D, coast, fr⟩ := t
 dsimp only at hn hC0 HZ hE0 hB2 HSB hil hks HIS HJI cI cS ⊢
 generalize ba L S = I at *
 generalize dO L S = cnt at *
 generalize bn L S = code at *
 have HD := yz ((ap w [.slice a L.length cap, .int .i64 lim, .int .i64 mode, .int .i64 A, .int .i64 B', .int .i64 C, .int .i64 D, .int .i64 coast, .int .i64 fr, .int .i64 u1, .int .i64 u2, .int .i64 u3, .int .i64 u4] 51).alloc (.cells #[.string tx, .int .i64 n] 77))
 have HX : Hid (Blk ((w.alloc (.cells #[.slice a L.length cap, .int .i64 lim, .int .i64 mode, .int .i64 A, .int .i64 B', .int .i64 C, .int .i64 D, .int .i64 coast, .int .i64 fr, .int .i64 u1, .int .i64 u2, .int .i64 u3, .int .i64 u4] 51)).alloc (.cells #[.string tx, .int .i64 n] 77)) (w.heap.size + 1) [.string tx, .int .i64 n] 77) := yz (by have h := ap (w.alloc (.cells #[.slice a L.length cap, .int .i64 lim, .int .i64 mode, .int .i64 A, .int .i64 B', .int .i64 C, .int .i64 D, .int .i64 coast, .int .i64 fr, .int .i64 u1, .int .i64 u2, .int .i64 u3, .int .i64 u4] 51)) [.string tx, .int .i64 n] 77; simpa using h)
 have HC := yz hC0
 have HE := yz hE0
 clear hC hE hC0 hE0 hk
 go_enter Tryz.func76, Tryz.ntmps76
 go_upto_region 1 with fail
 generalize (w.alloc (.cells #[.slice a L.length cap, .int .i64 lim, .int .i64 mode, .int .i64 A, .int .i64 B', .int .i64 C, .int .i64 D, .int .i64 coast, .int .i64 fr, .int .i64 u1, .int .i64 u2, .int .i64 u3, .int .i64 u4] 51)).alloc (.cells #[.string tx, .int .i64 n] 77) = W at *
 have hdl : w.heap.size < W.heap.size := (yy HD).lt
 have hxl : w.heap.size + 1 < W.heap.size := (yy HX).lt
 have HKS : Hid (∀ w' : World, Below W.heap.size W w' → (w'.cell? ⟨w.heap.size, 0, none⟩ = some (.slice a L.length cap) ∧ w'.cell? ⟨w.heap.size, 1, none⟩ = some (.int .i64 lim) ∧ w'.cell? ⟨w.heap.size, 2, none⟩ = some (.int .i64 mode) ∧ w'.cell? ⟨w.heap.size, 3, none⟩ = some (.int .i64 A) ∧ w'.cell? ⟨w.heap.size, 4, none⟩ = some (.int .i64 B') ∧ w'.cell? ⟨w.heap.size, 5, none⟩ = some (.int .i64 C) ∧ w'.cell? ⟨w.heap.size, 6, none⟩ = some (.int .i64 D) ∧ w'.cell? ⟨w.heap.size, 7, none⟩ = some (.int .i64 coast) ∧ w'.cell? ⟨w.heap.size, 8, none⟩ = some (.int .i64 fr) ∧ w'.cell? ⟨w.heap.size, 9, none⟩ = some (.int .i64 u1) ∧ w'.cell? ⟨w.heap.size, 10, none⟩ = some (.int .i64 u2) ∧ w'.cell? ⟨w.heap.size, 11, none⟩ = some (.int .i64 u3) ∧ w'.cell? ⟨w.heap.size, 12, none⟩ = some (.int .i64 u4)) ∧ w'.cell? ⟨w.heap.size + 1, 1, none⟩ = some (.int .i64 n)) := yz (fun w' h => ⟨⟨by rw [h.cell hdl]; exact (yy HD).cell 0 _ rfl, by rw [h.cell hdl]; exact (yy HD).cell 1 _ rfl, by rw [h.cell hdl]; exact (yy HD).cell 2 _ rfl, by rw [h.cell hdl]; exact (yy HD).cell 3 _ rfl, by rw [h.cell hdl]; exact (yy HD).cell 4 _ rfl, by rw [h.cell hdl]; exact (yy HD).cell 5 _ rfl, by rw [h.cell hdl]; exact (yy HD).cell 6 _ rfl, by rw [h.cell hdl]; exact (yy HD).cell 7 _ rfl, by rw [h.cell hdl]; exact (yy HD).cell 8 _ rfl, by rw [h.cell hdl]; exact (yy HD).cell 9 _ rfl, by rw [h.cell hdl]; exact (yy HD).cell 10 _ rfl, by rw [h.cell hdl]; exact (yy HD).cell 11 _ rfl, by rw [h.cell hdl]; exact (yy HD).cell 12 _ rfl⟩, by rw [h.cell hxl]; exact (yy HX).cell 1 _ rfl⟩)
 go_cut [5] (fun sv wx => yL W I cnt code sv wx)
 case first =>
  refine wp_region_held_drew (S := (fun w' => (w'.cell? ⟨w.heap.size, 0, none⟩ = some (.slice a L.length cap) ∧ w'.cell? ⟨w.heap.size, 1, none⟩ = some (.int .i64 lim) ∧ w'.cell? ⟨w.heap.size, 2, none⟩ = some (.int .i64 mode) ∧ w'.cell? ⟨w.heap.size, 3, none⟩ = some (.int .i64 A) ∧ w'.cell? ⟨w.heap.size, 4, none⟩ = some (.int .i64 B') ∧ w'.cell? ⟨w.heap.size, 5, none⟩ = some (.int .i64 C) ∧ w'.cell? ⟨w.heap.size, 6, none⟩ = some (.int .i64 D) ∧ w'.cell? ⟨w.heap.size, 7, none⟩ = some (.int .i64 coast) ∧ w'.cell? ⟨w.heap.size, 8, none⟩ = some (.int .i64 fr) ∧ w'.cell? ⟨w.heap.size, 9, none⟩ = some (.int .i64 u1) ∧ w'.cell? ⟨w.heap.size, 10, none⟩ = some (.int .i64 u2) ∧ w'.cell? ⟨w.heap.size, 11, none⟩ = some (.int .i64 u3) ∧ w'.cell? ⟨w.heap.size, 12, none⟩ = some (.int .i64 u4)) ∧ w'.cell? ⟨w.heap.size + 1, 1, none⟩ = some (.int .i64 n))) (by kernel_rfl) (yy HKS W (Below.refl _ _)) (fun hHeld => ?_)
  refine ac 0 rfl ?_
  try simp only [Act.put, ah, ai, aj]
  refine ac 1 rfl ?_
  try simp only [Act.put, ah, ai, aj]
  refine ac 2 rfl ?_
  try simp only [Act.put, ah, ai, aj]
  refine ac 3 rfl ?_
  try simp only [Act.put, ah, ai, aj]
  refine ac 4 rfl ?_
  try simp only [Act.put, ah, ai, aj]
  refine ac 5 rfl ?_
  try simp only [Act.put, ah, ai, aj]
  refine ag 6 8 rfl (fun K hK => ?_) rfl fun K hK => ?_
  ·skip
   go_simp
   refine ((yy cS) W.drew hB2 ((yy HC).kept (Below.refl _ _).drew) ((yy HE).kept (Below.refl _ _).drew)).mono ?_
   rintro e V1 ⟨⟨vS, rfl, hR⟩, hx⟩
   obtain ⟨aS, cpS, rfl⟩ := dD hR
   have HR := yz hR
   have HV : Hid (Below W.heap.size W V1) := yz ((Below.refl W.heap.size W).drew.trans hx)
   have hcap : S.length ≤ cpS ∧ cpS ≤ 9223372036854775807 := by
    rcases (co hR).2 with h | h
    ·exact ⟨h.1, Nat.le_trans h.2 hmx⟩
    ·omega
   clear hx hR
   refine hK.out _ _ (yy HKS _ (yy HV)) (fun hHeld1 => ?_)
   clear hK K hHeld
   refine ag 7 8 rfl (fun K hK => ?_) rfl fun K hK => ?_
   ·skip
    go_simp
    refine ((yy cI) V1 aS cpS hcap.1 hcap.2 ((yy HC).kept (yy HV)).stars (co (yy HR)).1 (gq ((yy HC).kept (yy HV))) (fun y e => (bX (yy HR) y e).2) ((yy HE).kept (yy HV)).1).mono ?_
    rintro e V2 ⟨hO, hx⟩
    obtain ⟨aI, cpI, rfl, hI, hfar⟩ := wK hO
    have HV1 := yz (ak (yy HV) hx)
    have HI1 := yz hI
    have hfar2 := fun x e => (hfar x e).2
    clear hx hI HV hO hfar
    have HV := HV1
    refine hK.out _ _ (yy HKS _ (yy HV)) (fun hHeld => ?_)
    clear hK K hHeld1
    refine af 8 rfl fun K hK => ?_
    go_simp
    have HY := yz (ap V2 [.slice none 0 0, .int .i64 0, .int .i64 0] 69)
    have HI := yz ((yy HI1).kept (an V2 (.cells #[.slice none 0 0, .int .i64 0, .int .i64 0] 69)))
    have HF : Hid (∀ x, aI = some x → x.block ≠ V2.heap.size) := yz (fun x e => Nat.ne_of_lt (hfar2 x e))
    have hyb : W.heap.size ≤ V2.heap.size := (yy HV).size
    replace HV := yz (ak (yy HV) (an V2 (.cells #[.slice none 0 0, .int .i64 0, .int .i64 0] 69)))
    clear hfar2
    generalize V2.alloc (.cells #[.slice none 0 0, .int .i64 0, .int .i64 0] 69) = V3 at *
    generalize V2.heap.size = yb at *
    refine hK.out _ _ (yy HKS _ (yy HV)) (fun hHeld1 => ?_)
    clear hK K hHeld
    obtain ⟨y0, y1, y2⟩ := js (yy HY)
    obtain ⟨z0, z1, z2⟩ := zI (yy HY)
    refine af 9 rfl fun K hK => ?_
    go_simp
    have HCUT := yz (jV (cI := cpI) (cnt := cnt) (code := code) (yy HY) (yy HI) (yy HF) (yy HV) hyb)
    refine hK.out _ _ (yy HKS _ (iE (yy HV) hyb _ _ _)) (fun hHeldE => ?_)
    clear hK K y0 y1 y2 z0 z1 z2
    refine wpAnyH_done (by kernel_rfl) ?_ _
    clear hHeldE
    go_wp2_with fail
    go_meet
    exact yy HCUT
   ·skip
    go_simp
    have HY1 := yz (ap V1 [.slice none 0 0, .int .i64 0, .int .i64 0] 69)
    have hyb : W.heap.size ≤ V1.heap.size := (yy HV).size
    replace HR := yz (bm (yy HR) (an V1 (.cells #[.slice none 0 0, .int .i64 0, .int .i64 0] 69)))
    replace HV := yz (ak (yy HV) (an V1 (.cells #[.slice none 0 0, .int .i64 0, .int .i64 0] 69)))
    refine hK.out _ _ (yy HKS _ (yy HV)) (fun hHeld => ?_)
    clear hK K hHeld1
    refine af 7 rfl fun K hK => ?_
    go_simp
    refine ((yy cI) _ aS cpS hcap.1 hcap.2 ((yy HC).kept (yy HV)).stars (co (yy HR)).1 (gq ((yy HC).kept (yy HV))) (fun y e => (bX (yy HR) y e).2) ((yy HE).kept (yy HV)).1).mono ?_
    rintro e V2 ⟨hO, hx⟩
    obtain ⟨aI, cpI, rfl, hI, hfar⟩ := wK hO
    have HY := yz ((yy HY1).kept hx)
    have hylt := (yy HY1).lt
    have HF : Hid (∀ x, aI = some x → x.block ≠ V1.heap.size) := yz (fun x e => by have := (hfar x e).1; omega)
    have HI := yz hI
    replace HV := yz (ak (yy HV) hx)
    clear hx hI hO hfar
    refine hK.out _ _ (yy HKS _ (yy HV)) (fun hHeld1 => ?_)
    clear hK K hHeld
    obtain ⟨y0, y1, y2⟩ := js (yy HY)
    obtain ⟨z0, z1, z2⟩ := zI (yy HY)
    refine af 9 rfl fun K hK => ?_
    go_simp
    have HCUT := yz (jV (cI := cpI) (cnt := cnt) (code := code) (yy HY) (yy HI) (yy HF) (yy HV) hyb)
    refine hK.out _ _ (yy HKS _ (iE (yy HV) hyb _ _ _)) (fun hHeldE => ?_)
    clear hK K y0 y1 y2 z0 z1 z2
    refine wpAnyH_done (by kernel_rfl) ?_ _
    clear hHeldE
    go_wp2_with fail
    go_meet
    exact yy HCUT
  ·skip
   go_simp
   have HY0 : Hid (Blk (W.drew.alloc (.cells #[.slice none 0 0, .int .i64 0, .int .i64 0] 69)) W.heap.size [.slice none 0 0, .int .i64 0, .int .i64 0] 69) := yz (ap W.drew [.slice none 0 0, .int .i64 0, .int .i64 0] 69)
   have HV0 : Hid (Below W.heap.size W (W.drew.alloc (.cells #[.slice none 0 0, .int .i64 0, .int .i64 0] 69))) := yz ((Below.refl W.heap.size W).drew.trans (an W.drew (.cells #[.slice none 0 0, .int .i64 0, .int .i64 0] 69)))
   refine hK.out _ _ (yy HKS _ (yy HV0)) (fun hHeld1 => ?_)
   clear hK K hHeld
   refine af 6 rfl fun K hK => ?_
   go_simp
   refine ((yy cS) _ (Nat.le_trans hB2 (yy HV0).size) ((yy HC).kept (yy HV0)) ((yy HE).kept (yy HV0))).mono ?_
   rintro e V1 ⟨⟨vS, rfl, hR⟩, hx⟩
   obtain ⟨aS, cpS, rfl⟩ := dD hR
   have HR := yz hR
   have HV : Hid (Below W.heap.size W V1) := yz (ak (yy HV0) hx)
   have hcap : S.length ≤ cpS ∧ cpS ≤ 9223372036854775807 := by
    rcases (co hR).2 with h | h
    ·exact ⟨h.1, Nat.le_trans h.2 hmx⟩
    ·omega
   have HY1 := yz ((yy HY0).kept hx)
   clear hx hR
   refine hK.out _ _ (yy HKS _ (yy HV)) (fun hHeld => ?_)
   clear hK K hHeld1
   refine af 7 rfl fun K hK => ?_
   go_simp
   refine ((yy cI) V1 aS cpS hcap.1 hcap.2 ((yy HC).kept (yy HV)).stars (co (yy HR)).1 (gq ((yy HC).kept (yy HV))) (fun y e => (bX (yy HR) y e).2) ((yy HE).kept (yy HV)).1).mono ?_
   rintro e V2 ⟨hO, hx⟩
   obtain ⟨aI, cpI, rfl, hI, hfar⟩ := wK hO
   have HY := yz ((yy HY1).kept hx)
   have hylt := (yy HY1).lt
   have HF : Hid (∀ x, aI = some x → x.block ≠ W.heap.size) := yz (fun x e => by have := (hfar x e).1; omega)
   have HI := yz hI
   replace HV := yz (ak (yy HV) hx)
   clear hx hI hO hfar
   refine hK.out _ _ (yy HKS _ (yy HV)) (fun hHeld1 => ?_)
   clear hK K hHeld
   obtain ⟨y0, y1, y2⟩ := js (yy HY)
   obtain ⟨z0, z1, z2⟩ := zI (yy HY)
   refine af 9 rfl fun K hK => ?_
   go_simp
   have HCUT := yz (jV (cI := cpI) (cnt := cnt) (code := code) (yy HY) (yy HI) (yy HF) (yy HV) (Nat.le_refl _))
   refine hK.out _ _ (yy HKS _ (iE (yy HV) (Nat.le_refl _) _ _ _)) (fun hHeldE => ?_)
   clear hK K y0 y1 y2 z0 z1 z2
   refine wpAnyH_done (by kernel_rfl) ?_ _
   clear hHeldE
   go_wp2_with fail
   go_meet
   exact yy HCUT
 case rest =>
 obtain ⟨yb, aI, cpI, rfl, hY, hI, hBc⟩ := hcut
 have HY := yz hY
 have HI := yz hI
 have HBC := yz hBc
 have HDc := yz ((yy HD).kept hBc)
 have HCc := yz ((yy HC).kept hBc)
 have HEc := yz ((yy HE).kept hBc)
 have hyl : yb < wc.heap.size := hY.lt
 have hdc : w.heap.size < wc.heap.size := (yy HDc).lt
 have y0 := hY.cell 0 _ rfl
 clear hY hI hBc HKS cS cI HD HC HE
 have hI6 : I.length ≤ 6 := by omega
 have HO : Hid (wc.ownsRow wc.heap.size 9 1 (.slice none 0 0) ((I.take 0).map bG).length (((I.take 0).map bG).map .string)) := yz (World.ownsRow_nil _ _ _ _)
 go_wp2_with fail
 go_loopw [6, 20] (fun v kk wr => ∃ k : Nat, k ≤ I.length ∧ kk = .int .i64 k ∧ Hid (wr.ownsRow wc.heap.size 9 1 v ((I.take k).map bG).length (((I.take k).map bG).map .string)) ∧ Hid (Below wc.heap.size wc wr)) (fun _ kk _ => I.length - (intOf kk).toNat)
 case atStart => exact ⟨0, Nat.zero_le _, rfl, HO, yz (Below.refl _ _)⟩
 case round =>
  clear HO
  obtain ⟨k, hk', rfl, HO, HW⟩ := hrel
  by_cases hkn : k < I.length
  ·have hkn2 : (k : Int) < (I.length : Int) := by omega
   obtain ⟨g, rfl, hg2, ci⟩ : ∃ g, aI = some ⟨g, 0, none⟩ ∧ g < wc.heap.size ∧ wc.cell? ⟨g, k, none⟩ = some (.int .i64 (I.getD k 0)) := by
    rcases yy HI with h | ⟨g, h1, h2, h3⟩
    ·rw [h] at hkn; simp at hkn
    ·exact ⟨g, h1, h2, h3 k hkn⟩
   have ci' : wr.cell? ⟨g, k, none⟩ = some (.int .i64 (I.getD k 0)) := by rw [(yy HW).cell (p := ⟨g, k, none⟩) hg2]; exact ci
   have hmem : I.getD k 0 ∈ I := by rw [List.getD_eq_getElem?_getD, List.getElem?_eq_getElem hkn]; exact List.getElem_mem hkn
   have hid := yy HIS _ hmem
   have HSN : Hid ((I.take (k + 1)).map bG = (I.take k).map bG ++ [bG (I.getD k 0)]) := yz (by
    rw [List.take_succ_eq_append_getElem hkn, List.map_append, List.getD_eq_getElem?_getD, List.getElem?_eq_getElem hkn]; rfl)
   clear hmem ci
   generalize I.getD k 0 = id at *
   obtain ⟨m, rfl⟩ := Int.eq_ofNat_of_zero_le hid.1
   rw [mm] at HSN
   obtain ⟨PR, HPR⟩ : ∃ PR, Hid ((I.take k).map bG = PR) := ⟨_, yz rfl⟩
   have hpl : PR.length ≤ 6 := by rw [← yy HPR, List.length_map, List.length_take]; omega
   rw [yy HPR] at HO HSN
   have cD := yz (fun (W : World) h => jI m W (by omega) h)
   generalize fz m = xd at *
   go_wp2_with fail
   refine ((yy cD) wr ((yy HEc).kept (yy HW)).2).mono ?_
   rintro e V1 ⟨rfl, hx⟩
   have hy := an V1 (.cells #[.string xd] 9)
   have HW1 := yz (ak (ak (yy HW) hx) hy)
   have hown := bm (bm (yy HO) hx) hy
   have hs3 := (yy HW1).size
   clear hx hy HO ci'
   go_wp2_with (at_builtin; refine wpList_append_own _ rfl _ _ 27 rfl wc.heap.size 9 i0 (.string ⟨#[]⟩) 1 16 Tryz.underlying27 hinf hz0 hz1 hz2 rfl (by decide) _ _ _ rfl hown ⟨V1.heap.size, 0, none⟩ 1 1 [.string xd] rfl rfl ?d2 (fun u hu => by rw [List.mem_singleton] at hu; subst hu; rfl) ?d3 ?d4 ?d5 ?_)
   case d2 => exact na _ _ _
   case d3 => omega
   case d4 => omega
   case d5 => exact hs3
   intro v7 V7 hown7 hgrow7 _
   have HW7 := yz (nK (yy HW1) hgrow7 hs3 (fun q e => (hown.lt q e).1))
   have HO7 : Hid (V7.ownsRow wc.heap.size 9 1 v7 ((I.take (k + 1)).map bG).length (((I.take (k + 1)).map bG).map .string)) := yz (by rw [yy HSN, List.map_append, List.length_append]; exact hown7)
   clear hown7 hgrow7 hown HW1
   go_wp2_with fail
   go_roundw
   case rel => exact ⟨k + 1, hkn, by go_num, HO7, HW7⟩
   case measure => simp [intOf] <;> omega
  ·have hke : k = I.length := by omega
   subst hke
   have HJ := yz (yy HJI I.length (Nat.le_refl _))
   have HSM : Hid (∀ x ∈ (I.take I.length).map bG, x.size ≤ 1000) := yz (fun x hx => by
    obtain ⟨z, hz, rfl⟩ := List.mem_map.1 hx
    have h2 := yy HIS z (List.mem_of_mem_take hz)
    obtain ⟨m, rfl⟩ := Int.eq_ofNat_of_zero_le h2.1
    rw [mm]
    have := dN (n := m) (by omega)
    omega)
   have HLN : Hid (((I.take I.length).map bG).length ≤ 400) := yz (by rw [List.length_map, List.length_take]; omega)
   have hjs : (ji I I.length).size ≤ 1000 := by have := kR (ids := I) (yy HIS) I.length; omega
   generalize (I.take I.length).map bG = PR at *
   have cJ := yz (fun (W : World) h => AA PR wc.heap.size u6 ⟨#[44]⟩ W h (by decide) (yy HSM) (yy HLN))
   rw [yy HJ] at cJ
   generalize ji I I.length = xj at *
   have HDr := yz ((yy HDc).kept (yy HW))
   have HYr := yz ((yy HY).kept (yy HW))
   have HCr := yz ((yy HCc).kept (yy HW))
   have hdr : w.heap.size < wr.heap.size := (yy HDr).lt
   have hyr : yb < wr.heap.size := (yy HYr).lt
   have HKS : Hid (∀ w' : World, Below wr.heap.size wr w' → (w'.cell? ⟨w.heap.size, 0, none⟩ = some (.slice a L.length cap) ∧ w'.cell? ⟨w.heap.size, 1, none⟩ = some (.int .i64 lim) ∧ w'.cell? ⟨w.heap.size, 2, none⟩ = some (.int .i64 mode) ∧ w'.cell? ⟨w.heap.size, 3, none⟩ = some (.int .i64 A) ∧ w'.cell? ⟨w.heap.size, 4, none⟩ = some (.int .i64 B') ∧ w'.cell? ⟨w.heap.size, 5, none⟩ = some (.int .i64 C) ∧ w'.cell? ⟨w.heap.size, 6, none⟩ = some (.int .i64 D) ∧ w'.cell? ⟨w.heap.size, 7, none⟩ = some (.int .i64 coast) ∧ w'.cell? ⟨w.heap.size, 8, none⟩ = some (.int .i64 fr) ∧ w'.cell? ⟨w.heap.size, 9, none⟩ = some (.int .i64 u1) ∧ w'.cell? ⟨w.heap.size, 10, none⟩ = some (.int .i64 u2) ∧ w'.cell? ⟨w.heap.size, 11, none⟩ = some (.int .i64 u3) ∧ w'.cell? ⟨w.heap.size, 12, none⟩ = some (.int .i64 u4)) ∧ w'.cell? ⟨yb, 2, none⟩ = some (.int .i64 code)) := yz (fun w' h => ⟨⟨by rw [h.cell hdr]; exact (yy HDr).cell 0 _ rfl, by rw [h.cell hdr]; exact (yy HDr).cell 1 _ rfl, by rw [h.cell hdr]; exact (yy HDr).cell 2 _ rfl, by rw [h.cell hdr]; exact (yy HDr).cell 3 _ rfl, by rw [h.cell hdr]; exact (yy HDr).cell 4 _ rfl, by rw [h.cell hdr]; exact (yy HDr).cell 5 _ rfl, by rw [h.cell hdr]; exact (yy HDr).cell 6 _ rfl, by rw [h.cell hdr]; exact (yy HDr).cell 7 _ rfl, by rw [h.cell hdr]; exact (yy HDr).cell 8 _ rfl, by rw [h.cell hdr]; exact (yy HDr).cell 9 _ rfl, by rw [h.cell hdr]; exact (yy HDr).cell 10 _ rfl, by rw [h.cell hdr]; exact (yy HDr).cell 11 _ rfl, by rw [h.cell hdr]; exact (yy HDr).cell 12 _ rfl⟩, by rw [h.cell hyr]; exact (yy HYr).cell 2 _ rfl⟩)
   go_upto_region 8 with fail
   by_cases hc : code = 0
   ·subst hc
    rw [if_pos rfl] at HSB
    refine wp_region_held_drew (S := (fun w' => (w'.cell? ⟨w.heap.size, 0, none⟩ = some (.slice a L.length cap) ∧ w'.cell? ⟨w.heap.size, 1, none⟩ = some (.int .i64 lim) ∧ w'.cell? ⟨w.heap.size, 2, none⟩ = some (.int .i64 mode) ∧ w'.cell? ⟨w.heap.size, 3, none⟩ = some (.int .i64 A) ∧ w'.cell? ⟨w.heap.size, 4, none⟩ = some (.int .i64 B') ∧ w'.cell? ⟨w.heap.size, 5, none⟩ = some (.int .i64 C) ∧ w'.cell? ⟨w.heap.size, 6, none⟩ = some (.int .i64 D) ∧ w'.cell? ⟨w.heap.size, 7, none⟩ = some (.int .i64 coast) ∧ w'.cell? ⟨w.heap.size, 8, none⟩ = some (.int .i64 fr) ∧ w'.cell? ⟨w.heap.size, 9, none⟩ = some (.int .i64 u1) ∧ w'.cell? ⟨w.heap.size, 10, none⟩ = some (.int .i64 u2) ∧ w'.cell? ⟨w.heap.size, 11, none⟩ = some (.int .i64 u3) ∧ w'.cell? ⟨w.heap.size, 12, none⟩ = some (.int .i64 u4)) ∧ w'.cell? ⟨yb, 2, none⟩ = some (.int .i64 0))) (by kernel_rfl) (yy HKS wr (Below.refl _ _)) (fun hHeld => ?_)
    refine ac 0 rfl ?_
    try simp only [Act.put, ah, ai, aj]
    refine ac 1 rfl ?_
    try simp only [Act.put, ah, ai, aj]
    refine ac 2 rfl ?_
    try simp only [Act.put, ah, ai, aj]
    refine ac 3 rfl ?_
    try simp only [Act.put, ah, ai, aj]
    refine af 4 rfl fun K hK => ?_
    go_simp
    refine ((yy cJ) wr.drew (bm (yy HO) (Below.refl _ _).drew)).mono ?_
    rintro e V ⟨rfl, hx⟩
    have HV : Hid (Below wr.heap.size wr V) := yz ((Below.refl wr.heap.size wr).drew.trans hx)
    clear hx
    refine hK.out _ _ (yy HKS _ (yy HV)) (fun hHeld1 => ?_)
    clear hK K hHeld
    refine af 5 rfl fun K hK => ?_
    go_simp
    have HW5 : Hid (fS (V.alloc (.cells #[.string xj] 9)) V.heap.size [xj]) := yz (ap V [.string xj] 9)
    have HV5 := yz (ak (yy HV) (an V (.cells #[.string xj] 9)))
    refine hK.out _ _ (yy HKS _ (yy HV5)) (fun hHeld2 => ?_)
    clear hK K hHeld1
    generalize V.alloc (.cells #[.string xj] 9) = W5 at *
    generalize V.heap.size = wb at *
    clear HV
    refine af 6 rfl fun K hK => ?_
    go_simp
    refine (eL a L.length cap lim mode A B' C D coast fr u1 u2 u3 u4 (some ⟨wb, 0, none⟩) 1 1 W5).mono ?_
    rintro e V6 ⟨rfl, hx⟩
    have HV6 := yz (ak (yy HV5) hx)
    have HA : Hid (Ans V6 B (⟨L, lim, mode, A, B', C, D, coast, fr⟩, (u1, u2, u3, u4)) ((⟨L, lim, mode, A, B', C, D, coast, fr⟩, (u1, u2, u3, u4)), R) (.returned (.iface 87 (.agg #[.slice a L.length cap, .int .i64 lim, .int .i64 mode, .int .i64 A, .int .i64 B', .int .i64 C, .int .i64 D, .int .i64 coast, .int .i64 fr, .int .i64 u1, .int .i64 u2, .int .i64 u3, .int .i64 u4, .slice (some ⟨wb, 0, none⟩) 1 1])))) := yz (.inr ⟨a, cap, wb, [xj], rfl, (yy HCr).kept (yy HV6), (yy HW5).kept hx, by simp, by intro x hx; rw [List.mem_singleton] at hx; subst hx; exact hjs, by rw [kG, yy HSB]⟩)
    clear hx
    refine hK.out _ _ (yy HKS _ (yy HV6)) (fun hHeld3 => ?_)
    clear hK K hHeld2
    refine af 7 rfl fun K hK => ?_
    go_simp
    refine hK.out _ _ (yy HKS _ (yy HV6)) (fun hHeld4 => ?_)
    clear hK K hHeld3
    refine wpAnyH_done (by kernel_rfl) ?_ _
    clear hHeld4
    go_wp2_with fail
    go_ret
    exact ⟨yy HA, ak (yy HZ) (ak (yy HBC) (ak (yy HW) (yy HV6)))⟩
   ·obtain ⟨kk, rfl⟩ := Int.eq_ofNat_of_zero_le hks.1
    rw [if_neg hc, Int.toNat_natCast] at HSB
    refine wp_region_held_drew (S := (fun w' => (w'.cell? ⟨w.heap.size, 0, none⟩ = some (.slice a L.length cap) ∧ w'.cell? ⟨w.heap.size, 1, none⟩ = some (.int .i64 lim) ∧ w'.cell? ⟨w.heap.size, 2, none⟩ = some (.int .i64 mode) ∧ w'.cell? ⟨w.heap.size, 3, none⟩ = some (.int .i64 A) ∧ w'.cell? ⟨w.heap.size, 4, none⟩ = some (.int .i64 B') ∧ w'.cell? ⟨w.heap.size, 5, none⟩ = some (.int .i64 C) ∧ w'.cell? ⟨w.heap.size, 6, none⟩ = some (.int .i64 D) ∧ w'.cell? ⟨w.heap.size, 7, none⟩ = some (.int .i64 coast) ∧ w'.cell? ⟨w.heap.size, 8, none⟩ = some (.int .i64 fr) ∧ w'.cell? ⟨w.heap.size, 9, none⟩ = some (.int .i64 u1) ∧ w'.cell? ⟨w.heap.size, 10, none⟩ = some (.int .i64 u2) ∧ w'.cell? ⟨w.heap.size, 11, none⟩ = some (.int .i64 u3) ∧ w'.cell? ⟨w.heap.size, 12, none⟩ = some (.int .i64 u4)) ∧ w'.cell? ⟨yb, 2, none⟩ = some (.int .i64 (kk : Int)))) (by kernel_rfl) (yy HKS wr (Below.refl _ _)) (fun hHeld => ?_)
    refine ac 0 rfl ?_
    try simp only [Act.put, ah, ai, aj]
    refine ac 1 rfl ?_
    try simp only [Act.put, ah, ai, aj]
    refine ac 2 rfl ?_
    try simp only [Act.put, ah, ai, aj]
    refine ac 3 rfl ?_
    try simp only [Act.put, ah, ai, aj]
    refine af 4 rfl fun K hK => ?_
    go_simp
    refine ((yy cJ) wr.drew (bm (yy HO) (Below.refl _ _).drew)).mono ?_
    rintro e V ⟨rfl, hx⟩
    have HV : Hid (Below wr.heap.size wr V) := yz ((Below.refl wr.heap.size wr).drew.trans hx)
    clear hx
    refine hK.out _ _ (yy HKS _ (yy HV)) (fun hHeld1 => ?_)
    clear hK K hHeld
    refine af 5 rfl fun K hK => ?_
    go_simp
    have HW5 : Hid (fS (V.alloc (.cells #[.string xj] 9)) V.heap.size [xj]) := yz (ap V [.string xj] 9)
    have HV5 := yz (ak (yy HV) (an V (.cells #[.string xj] 9)))
    refine hK.out _ _ (yy HKS _ (yy HV5)) (fun hHeld2 => ?_)
    clear hK K hHeld1
    generalize V.alloc (.cells #[.string xj] 9) = W5 at *
    generalize V.heap.size = wb at *
    clear HV
    refine af 6 rfl fun K hK => ?_
    go_simp
    refine (gp a L.length cap lim mode A B' C D coast fr u1 u2 u3 u4 (kk : Int) (some ⟨wb, 0, none⟩) 1 1 W5 hc).mono ?_
    rintro e V6 ⟨rfl, hx⟩
    have HV6 := yz (ak (yy HV5) hx)
    have HA : Hid (Ans V6 B (⟨L, lim, mode, A, B', C, D, coast, fr⟩, (u1, u2, u3, u4)) ((⟨L, lim, mode, A, B', C, D, coast, fr⟩, (u1, u2, u3, u4)), R) (.returned (.iface 168 (.agg #[.int .i64 (kk : Int)])))) := yz (.inl ⟨kk, by omega, by omega, rfl, by rw [yy HSB]⟩)
    clear hx
    refine hK.out _ _ (yy HKS _ (yy HV6)) (fun hHeld3 => ?_)
    clear hK K hHeld2
    refine af 7 rfl fun K hK => ?_
    go_simp
    refine hK.out _ _ (yy HKS _ (yy HV6)) (fun hHeld4 => ?_)
    clear hK K hHeld3
    refine wpAnyH_done (by kernel_rfl) ?_ _
    clear hHeld4
    go_wp2_with fail
    go_ret
    exact ⟨yy HA, ak (yy HZ) (ak (yy HBC) (ak (yy HW) (yy HV6)))⟩
end
section
open Go.RowKit Go.Deep Go.ChangeShapes
theorem Af : (Rows.laid_internal_strconv_uint64pow10 : DataW Unit) = Lib.tabData .u64 Lib.pow10Tab := by kernel_rfl
theorem Ah : (Tryz.prog.globals[4]?).map (·.type) = some 247 := by kernel_rfl
theorem Et {W : World} (h : laidMetH Tryz.prog gy W) : Tab W := by
 have h' : laidMet Tryz.prog gy W := h
 obtain ⟨ps, ⟨g', t', cs, fuel, p, q, hg', ht', hvar, hd, _, _⟩, _⟩ := eN (eN h')
 rw [Af] at hd
 obtain rfl := Option.some.inj (si.symm.trans hg')
 obtain rfl := Option.some.inj (Ah.symm.trans ht')
 show Lib.TabIs _ _ _ _ _
 unfold Lib.TabIs
 rw [hvar, ← Lib.cells_of_tab Tryz.underlying247 Tryz.underlying233 (by kernel_rfl) (by kernel_rfl) hd]
end
end Go.Proofs.YtlleafjdgblhcaaGreatDoor
