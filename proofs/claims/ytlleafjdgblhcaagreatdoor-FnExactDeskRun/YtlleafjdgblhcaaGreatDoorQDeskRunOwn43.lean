/- Several texts in one: DsP, DsQ, DsU, DsR, DsS, DsV. -/
import Derived.Lib.AppendStr
import Derived.Test.YtlleafjdgblhcaaGreatDoorQDeskRunOwn42
import Derived.Test.YtlleafjdgblhcaaGreatDoorQDeskRunOwn1
import Derived.Test.YtlleafjdgblhcaaGreatDoorQDeskRunOwn38
import Derived.Test.YtlleafjdgblhcaaGreatDoorQDeskRunOwn28
import Derived.Test.YtlleafjdgblhcaaGreatDoorQDeskRunOwn29
import Derived.Test.YtlleafjdgblhcaaGreatDoorQDeskRunOwn3
namespace Go.Proofs.YtlleafjdgblhcaaGreatDoor
set_option linter.unusedVariables false
set_option linter.unusedSimpArgs false
set_option maxRecDepth 100000
set_option maxHeartbeats 8000000
section
open Go.RowKit Go.Sort
theorem xZ {w : World} {B n cap : Nat} {a : Option Addr} {xs : List Int} (h : w.ownsRow B 2 1 (.slice a n cap) n (fd xs)) (hn : n = xs.length) {k : Nat} (hk : k < n) : ∃ g, a = some ⟨g, 0, none⟩ ∧ B ≤ g ∧ g < w.heap.size ∧ w.cell? ⟨g, k, none⟩ = some (.int .i64 (xs.getD k 0)) := by
 rcases h.2 with ⟨_, h0⟩ | ⟨g, c', cur, e', hb, hh, h1, h2, h3, h4⟩
 ·omega
 ·injection e' with e1
  refine ⟨g, e1, hb, (Array.getElem?_eq_some_iff.1 hh).1, ?_⟩
  rw [cell_of_row w g k cur _ _ hh]
  have e : (fd xs)[k]? = some (.int .i64 (xs.getD k 0)) := by
   unfold fd
   rw [List.getElem?_map, List.getD_eq_getElem?_getD, List.getElem?_eq_getElem (by omega)]
   rfl
  rw [← h4, List.getElem?_take, if_pos (by omega)] at e
  simpa using e
theorem BR {w : World} {B n m yb : Nat} {t : TypeId} {a : Option Addr} {c : Nat} {xs : List Value} (h : w.ownsRow B t m (.slice a n c) n xs) (hf : ∀ x, a = some x → x.block ≠ yb) (x0 x1 x2 : Value) : (((w.setCell ⟨yb, 0, none⟩ x0).setCell ⟨yb, 1, none⟩ x1).setCell ⟨yb, 2, none⟩ x2).ownsRow B t m (.slice a n c) n xs := by
 refine World.ownsRow.kept h (aB (aB (aB (aM (Below.refl _ _)) 0 _) 1 _) 2 _) ?_
 cases a with
 | none => exact .inl rfl
 | some x => exact .inr (fun e => hf x rfl (Option.some.inj e))
theorem Bq {W : World} {xb : Nat} {t : TypeId} {v0 v1 v2 : Value} (h : Blk W xb [v0, v1, v2] t) (x0 x1 x2 : Value) : Blk (((W.setCell ⟨xb, 0, none⟩ x0).setCell ⟨xb, 1, none⟩ x1).setCell ⟨xb, 2, none⟩ x2) xb [x0, x1, x2] t := Blk.set (Blk.set (Blk.set h 0 x0) 1 x1) 2 x2
theorem jF {n : Nat} {w W : World} {xb : Nat} (h : Below n w W) (hx : n ≤ xb) (x0 x1 x2 : Value) : Below n w (((W.setCell ⟨xb, 0, none⟩ x0).setCell ⟨xb, 1, none⟩ x1).setCell ⟨xb, 2, none⟩ x2) := ((h.setCell hx _).setCell hx _).setCell hx _
def Bt (W : World) (I : List Int) (cnt code : Int) (sv : Value) (wx : World) : Prop := ∃ yb aI cI, sv = .pointer (some ⟨yb, 0, none⟩) ∧ Blk wx yb [.slice aI I.length cI, .int .i64 cnt, .int .i64 code] 69 ∧ wx.ownsRow W.heap.size 2 1 (.slice aI I.length cI) I.length (fd I) ∧ Below W.heap.size W wx
theorem lF {W V : World} {yb : Nat} {I : List Int} {cnt code : Int} {aI : Option Addr} {cI : Nat} {v0 v1 v2 : Value} (hY : Blk V yb [v0, v1, v2] 69) (hR : V.ownsRow W.heap.size 2 1 (.slice aI I.length cI) I.length (fd I)) (hf : ∀ x, aI = some x → x.block ≠ yb) (hB : Below W.heap.size W V) (hb : W.heap.size ≤ yb) : Bt W I cnt code (.pointer (some ⟨yb, 0, none⟩)) (((V.setCell ⟨yb, 0, none⟩ (.slice aI I.length cI)).setCell ⟨yb, 1, none⟩ (.int .i64 cnt)).setCell ⟨yb, 2, none⟩ (.int .i64 code)) :=
 ⟨yb, aI, cI, rfl, Bq hY _ _ _, BR hR hf _ _ _, jF hB hb _ _ _⟩
theorem tX (w : World) (db B : Nat) (t : Tk) (u : U4) (a : Option Addr) (cap : Nat) (tx : ByteArray) (n : Int) (hk : bS t) (hs : tx.size ≤ 9223372036854775807) (hB : B ≤ w.heap.size) (hD : bc w db B t u a cap) :
  Calls Tryz.prog 11 #[.pointer (some ⟨db, 0, none⟩), .agg #[.string ⟨#[105, 100, 115]⟩, .string tx, .int .i64 n]] w fun e w' => e = .returned (.string (ti t u n)) ∧ (∃ a' cap', bc w' db B t u a' cap') ∧ w.grownBy w' (some db) := by
 have hn : t.L.length ≤ 1048576 := Nat.le_trans hk.1 (by decide)
 have HZ := yz (an w (.cells #[.string ⟨#[105, 100, 115]⟩, .string tx, .int .i64 n] 43))
 have HD0 := yz (hD.kept (yy HZ))
 have HB0 : B ≤ (w.alloc (.cells #[.string ⟨#[105, 100, 115]⟩, .string tx, .int .i64 n] 43)).heap.size := Nat.le_trans hB (yy HZ).size
 have c0 := (ap w [.string ⟨#[105, 100, 115]⟩, .string tx, .int .i64 n] 43).cell 0 _ rfl
 have c1 := (ap w [.string ⟨#[105, 100, 115]⟩, .string tx, .int .i64 n] 43).cell 1 _ rfl
 have c2 := (ap w [.string ⟨#[105, 100, 115]⟩, .string tx, .int .i64 n] 43).cell 2 _ rfl
 have HSB : Hid (ti t u n = if bn t.L (aX t.L u.1 u.2.1 u.2.2.1 u.2.2.2 n) = 0 then ji (ba t.L (aX t.L u.1 u.2.1 u.2.2.1 u.2.2.2 n)) (ba t.L (aX t.L u.1 u.2.1 u.2.2.1 u.2.2.2 n)).length else fR (bn t.L (aX t.L u.1 u.2.1 u.2.2.1 u.2.2.2 n)).toNat) := yz rfl
 generalize ti t u n = R at *
 have hs6 := gR t.L u.1 u.2.1 u.2.2.1 u.2.2.2 n
 have hks := ke t.L (aX t.L u.1 u.2.1 u.2.2.1 u.2.2.2 n)
 obtain ⟨hil, his⟩ := jn t.L (aX t.L u.1 u.2.1 u.2.2.1 u.2.2.2 n)
 have HIS := yz his
 have HSZ := yz (kR his)
 clear his
 have cS := yz (fun W h => kX W db B t u a cap n hn h)
 have hmx : maxLen ≤ 9223372036854775807 := by decide +kernel
 have cI := yz (fun (W : World) br dr => nr t.L (aX t.L u.1 u.2.1 u.2.2.1 u.2.2.2 n) a br cap dr W hn (by omega))
 generalize (aX t.L u.1 u.2.1 u.2.2.1 u.2.2.2 n) = S at *
 obtain ⟨u1, u2, u3, u4⟩ := u
 obtain ⟨L, lim, mode, A, B', C, D, coast, fr⟩ := t
 dsimp only at hn hD HSB hil hks HIS HSZ cI
 generalize ba L S = I at *
 generalize dO L S = cnt at *
 generalize bn L S = code at *
 have hdl := (yy HD0).lt
 have d0 := (yy HD0).blk.cell 0 _ rfl
 have hwl : w.heap.size < (w.alloc (.cells #[.string ⟨#[105, 100, 115]⟩, .string tx, .int .i64 n] 43)).heap.size := (ap w [.string ⟨#[105, 100, 115]⟩, .string tx, .int .i64 n] 43).lt
 have HKS : Hid (∀ w' : World, Below (w.alloc (.cells #[.string ⟨#[105, 100, 115]⟩, .string tx, .int .i64 n] 43)).heap.size (w.alloc (.cells #[.string ⟨#[105, 100, 115]⟩, .string tx, .int .i64 n] 43)) w' → w'.cell? ⟨db, 0, none⟩ = some (.slice a L.length cap) ∧ w'.cell? ⟨w.heap.size, 2, none⟩ = some (.int .i64 n)) := yz (fun w' h => ⟨by rw [h.cell hdl]; exact d0, by rw [h.cell hwl]; exact c2⟩)
 go_enter Tryz.func11, Tryz.ntmps11
 go_upto_region 14 with fail
 generalize w.alloc (.cells #[.string ⟨#[105, 100, 115]⟩, .string tx, .int .i64 n] 43) = W at *
 clear c0 c1 c2 d0
 go_cut [5] (fun sv wx => Bt W I cnt code sv wx)
 case first =>
  refine wp_region_held_drew (S := (fun w' => w'.cell? ⟨db, 0, none⟩ = some (.slice a L.length cap) ∧ w'.cell? ⟨w.heap.size, 2, none⟩ = some (.int .i64 n))) (by kernel_rfl) (yy HKS W (Below.refl _ _)) (fun hHeld => ?_)
  refine ac 0 rfl ?_
  try simp only [Act.put, ah, ai, aj]
  refine ac 1 rfl ?_
  try simp only [Act.put, ah, ai, aj]
  refine ac 2 rfl ?_
  try simp only [Act.put, ah, ai, aj]
  refine ac 3 rfl ?_
  try simp only [Act.put, ah, ai, aj]
  refine ac 4 rfl ?_
  try simp only [Act.put, ah, ai, aj]
  refine ac 5 rfl ?_
  try simp only [Act.put, ah, ai, aj]
  refine ac 6 rfl ?_
  try simp only [Act.put, ah, ai, aj]
  refine ac 7 rfl ?_
  try simp only [Act.put, ah, ai, aj]
  refine ag 8 10 rfl (fun K hK => ?_) rfl fun K hK => ?_
  ·skip
   go_simp
   refine ((yy cS) W.drew ((yy HD0).kept (Below.refl _ _).drew)).mono ?_
   rintro e V1 ⟨⟨vS, rfl, hR⟩, hx⟩
   obtain ⟨aS, cpS, rfl⟩ := dD hR
   have HR := yz hR
   have HV : Hid (Below W.heap.size W V1) := yz ((Below.refl W.heap.size W).drew.trans hx)
   have hcap : S.length ≤ cpS ∧ cpS ≤ 9223372036854775807 := by
    rcases (co hR).2 with h | h
    ·exact ⟨h.1, Nat.le_trans h.2 hmx⟩
    ·omega
   clear hx hR
   refine hK.out _ _ (yy HKS _ (yy HV)) (fun hHeld1 => ?_)
   clear hK K hHeld
   refine ag 9 10 rfl (fun K hK => ?_) rfl fun K hK => ?_
   ·skip
    go_simp
    refine ((yy cI) V1 aS cpS hcap.1 hcap.2 ((yy HD0).kept (yy HV)).sky.stars (co (yy HR)).1 (gq ((yy HD0).kept (yy HV)).sky) (fun y e => (bX (yy HR) y e).2)).mono ?_
    rintro e V2 ⟨⟨vI, rfl, hI⟩, hx⟩
    obtain ⟨aI, cpI, rfl⟩ := dD hI
    have HV1 := yz (ak (yy HV) hx)
    have hvl : W.heap.size ≤ V1.heap.size := (yy HV).size
    have HI1 := yz (cg hI hvl)
    have hfar := fun x e => (bX hI x e).2
    clear hx hI HV
    have HV := HV1
    refine hK.out _ _ (yy HKS _ (yy HV)) (fun hHeld => ?_)
    clear hK K hHeld1
    refine af 10 rfl fun K hK => ?_
    go_simp
    have HY := yz (ap V2 [.slice none 0 0, .int .i64 0, .int .i64 0] 69)
    have HI := yz (bm (yy HI1) (an V2 (.cells #[.slice none 0 0, .int .i64 0, .int .i64 0] 69)))
    have HF : Hid (∀ x, aI = some x → x.block ≠ V2.heap.size) := yz (fun x e => Nat.ne_of_lt (hfar x e))
    have hyb : W.heap.size ≤ V2.heap.size := (yy HV).size
    replace HV := yz (ak (yy HV) (an V2 (.cells #[.slice none 0 0, .int .i64 0, .int .i64 0] 69)))
    generalize V2.alloc (.cells #[.slice none 0 0, .int .i64 0, .int .i64 0] 69) = V3 at *
    generalize V2.heap.size = yb at *
    refine hK.out _ _ (yy HKS _ (yy HV)) (fun hHeld1 => ?_)
    clear hK K hHeld
    obtain ⟨y0, y1, y2⟩ := js (yy HY)
    obtain ⟨z0, z1, z2⟩ := zI (yy HY)
    refine af 11 rfl fun K hK => ?_
    go_simp
    have HCUT := yz (lF (cnt := cnt) (code := code) (yy HY) (yy HI) (yy HF) (yy HV) hyb)
    refine hK.out _ _ (yy HKS _ (jF (yy HV) hyb _ _ _)) (fun hHeldE => ?_)
    clear hK K y0 y1 y2 z0 z1 z2
    refine wpAnyH_done (by kernel_rfl) ?_ _
    clear hHeldE
    go_wp2_with fail
    go_meet
    exact yy HCUT
   ·skip
    go_simp
    have HY1 := yz (ap V1 [.slice none 0 0, .int .i64 0, .int .i64 0] 69)
    have hyb : W.heap.size ≤ V1.heap.size := (yy HV).size
    replace HR := yz (bm (yy HR) (an V1 (.cells #[.slice none 0 0, .int .i64 0, .int .i64 0] 69)))
    replace HV := yz (ak (yy HV) (an V1 (.cells #[.slice none 0 0, .int .i64 0, .int .i64 0] 69)))
    refine hK.out _ _ (yy HKS _ (yy HV)) (fun hHeld => ?_)
    clear hK K hHeld1
    refine af 9 rfl fun K hK => ?_
    go_simp
    refine ((yy cI) _ aS cpS hcap.1 hcap.2 ((yy HD0).kept (yy HV)).sky.stars (co (yy HR)).1 (gq ((yy HD0).kept (yy HV)).sky) (fun y e => (bX (yy HR) y e).2)).mono ?_
    rintro e V2 ⟨⟨vI, rfl, hI⟩, hx⟩
    obtain ⟨aI, cpI, rfl⟩ := dD hI
    have HY := yz ((yy HY1).kept hx)
    have hvl := (yy HV).size
    have hylt := (yy HY1).lt
    have HF : Hid (∀ x, aI = some x → x.block ≠ V1.heap.size) := yz (fun x e => by have := (bX hI x e).1; omega)
    have HI := yz (cg hI hvl)
    replace HV := yz (ak (yy HV) hx)
    clear hx hI
    refine hK.out _ _ (yy HKS _ (yy HV)) (fun hHeld1 => ?_)
    clear hK K hHeld
    obtain ⟨y0, y1, y2⟩ := js (yy HY)
    obtain ⟨z0, z1, z2⟩ := zI (yy HY)
    refine af 11 rfl fun K hK => ?_
    go_simp
    have HCUT := yz (lF (cnt := cnt) (code := code) (yy HY) (yy HI) (yy HF) (yy HV) hyb)
    refine hK.out _ _ (yy HKS _ (jF (yy HV) hyb _ _ _)) (fun hHeldE => ?_)
    clear hK K y0 y1 y2 z0 z1 z2
    refine wpAnyH_done (by kernel_rfl) ?_ _
    clear hHeldE
    go_wp2_with fail
    go_meet
    exact yy HCUT
  ·skip
   go_simp
   have HY0 : Hid (Blk (W.drew.alloc (.cells #[.slice none 0 0, .int .i64 0, .int .i64 0] 69)) W.heap.size [.slice none 0 0, .int .i64 0, .int .i64 0] 69) := yz (ap W.drew [.slice none 0 0, .int .i64 0, .int .i64 0] 69)
   have HV0 : Hid (Below W.heap.size W (W.drew.alloc (.cells #[.slice none 0 0, .int .i64 0, .int .i64 0] 69))) := yz ((Below.refl W.heap.size W).drew.trans (an W.drew (.cells #[.slice none 0 0, .int .i64 0, .int .i64 0] 69)))
   refine hK.out _ _ (yy HKS _ (yy HV0)) (fun hHeld1 => ?_)
   clear hK K hHeld
   refine af 8 rfl fun K hK => ?_
   go_simp
   refine ((yy cS) _ ((yy HD0).kept (yy HV0))).mono ?_
   rintro e V1 ⟨⟨vS, rfl, hR⟩, hx⟩
   obtain ⟨aS, cpS, rfl⟩ := dD hR
   have HR := yz hR
   have HV : Hid (Below W.heap.size W V1) := yz (ak (yy HV0) hx)
   have hcap : S.length ≤ cpS ∧ cpS ≤ 9223372036854775807 := by
    rcases (co hR).2 with h | h
    ·exact ⟨h.1, Nat.le_trans h.2 hmx⟩
    ·omega
   have HY1 := yz ((yy HY0).kept hx)
   clear hx hR
   refine hK.out _ _ (yy HKS _ (yy HV)) (fun hHeld => ?_)
   clear hK K hHeld1
   refine af 9 rfl fun K hK => ?_
   go_simp
   refine ((yy cI) V1 aS cpS hcap.1 hcap.2 ((yy HD0).kept (yy HV)).sky.stars (co (yy HR)).1 (gq ((yy HD0).kept (yy HV)).sky) (fun y e => (bX (yy HR) y e).2)).mono ?_
   rintro e V2 ⟨⟨vI, rfl, hI⟩, hx⟩
   obtain ⟨aI, cpI, rfl⟩ := dD hI
   have HY := yz ((yy HY1).kept hx)
   have hvl := (yy HV).size
   have hylt := (yy HY1).lt
   have HF : Hid (∀ x, aI = some x → x.block ≠ W.heap.size) := yz (fun x e => by have := (bX hI x e).1; omega)
   have HI := yz (cg hI hvl)
   replace HV := yz (ak (yy HV) hx)
   clear hx hI
   refine hK.out _ _ (yy HKS _ (yy HV)) (fun hHeld1 => ?_)
   clear hK K hHeld
   obtain ⟨y0, y1, y2⟩ := js (yy HY)
   obtain ⟨z0, z1, z2⟩ := zI (yy HY)
   refine af 11 rfl fun K hK => ?_
   go_simp
   have HCUT := yz (lF (cnt := cnt) (code := code) (yy HY) (yy HI) (yy HF) (yy HV) (Nat.le_refl _))
   refine hK.out _ _ (yy HKS _ (jF (yy HV) (Nat.le_refl _) _ _ _)) (fun hHeldE => ?_)
   clear hK K y0 y1 y2 z0 z1 z2
   refine wpAnyH_done (by kernel_rfl) ?_ _
   clear hHeldE
   go_wp2_with fail
   go_meet
   exact yy HCUT
 case rest =>
 obtain ⟨yb, aI, cpI, rfl, hY, hI, hBc⟩ := hcut
 have HY := yz hY
 have HI := yz hI
 have HBC := yz hBc
 have y0 := hY.cell 0 _ rfl
 have y2 := hY.cell 2 _ rfl
 have hyl := hY.lt
 clear hY hI hBc HKS cS cI
 by_cases hc : code = 0
 case neg =>
  rw [if_neg hc] at HSB
  obtain ⟨m, rfl⟩ := Int.eq_ofNat_of_zero_le hks.1
  go_wp2_with fail
  refine (gK m _ (by omega)).mono ?_
  rintro e W3 ⟨rfl, hx3⟩
  have HB3 := yz (ak (yy HBC) hx3)
  go_wp2_with fail
  go_ret
  rw [yy HSB]
  exact ⟨rfl, ⟨_, _, (yy HD0).kept (yy HB3)⟩, aM (ak (yy HZ) (yy HB3))⟩
 subst hc
 rw [if_pos rfl] at HSB
 have hI6 : I.length ≤ 6 := by omega
 go_wp2_with fail
 go_loopw [6, 7] (fun s kk wr => ∃ k : Nat, k ≤ I.length ∧ s = .string (ji I k) ∧ kk = .int .i64 k ∧ Hid (Below wc.heap.size wc wr)) (fun _ kk _ => I.length - (intOf kk).toNat)
 case atStart => exact ⟨0, Nat.zero_le _, rfl, rfl, yz (Below.refl _ _)⟩
 case round =>
  obtain ⟨k, hk', rfl, rfl, HW⟩ := hrel
  have y0' : wr.cell? ⟨yb, 0, none⟩ = some (.slice aI I.length cpI) := by rw [(yy HW).cell hyl]; exact y0
  by_cases hkn : k < I.length
  ·have hkn2 : (k : Int) < (I.length : Int) := by omega
   obtain ⟨g, rfl, hg1, hg2, ci⟩ := xZ (yy HI) rfl hkn
   have ci' : wr.cell? ⟨g, k, none⟩ = some (.int .i64 (I.getD k 0)) := by rw [(yy HW).cell hg2]; exact ci
   have hmem : I.getD k 0 ∈ I := by rw [List.getD_eq_getElem?_getD, List.getElem?_eq_getElem hkn]; exact List.getElem_mem hkn
   have hid := yy HIS _ hmem
   have HJ : Hid (ji I (k + 1) = (if 0 < k then ji I k ++ ⟨#[44]⟩ else ji I k) ++ fz (I.getD k 0).toNat) := yz rfl
   have hz := yy HSZ k
   have HJ0 : Hid (ji I 0 = ⟨#[]⟩) := yz rfl
   clear hmem ci
   generalize I.getD k 0 = id at *
   obtain ⟨m, rfl⟩ := Int.eq_ofNat_of_zero_le hid.1
   have cD := yz (fun W => it m W (by omega))
   have hz2 := dN (n := m) (by omega)
   rw [Int.toNat_natCast] at HJ
   generalize fz m = xd at *
   by_cases hk0 : 0 < k
   ·have hk0' : (0 : Int) < (k : Int) := by omega
    rw [if_pos hk0] at HJ
    generalize hJk : ji I k = J at *
    have hc1 : ¬ J.size + (⟨#[44]⟩ : ByteArray).size > 9223372036854775807 := by rw [show (⟨#[44]⟩ : ByteArray).size = 1 from rfl]; omega
    have hc2 : ¬ (J ++ ⟨#[44]⟩).size + xd.size > 9223372036854775807 := by rw [ByteArray.size_append, show (⟨#[44]⟩ : ByteArray).size = 1 from rfl]; omega
    go_wp2_with fail
    refine ((yy cD) _).mono ?_
    rintro e W3 ⟨rfl, hx3⟩
    have HW3 := yz (ak (yy HW) hx3)
    clear hx3
    go_wp2_with fail
    go_roundw
    case rel => exact ⟨k + 1, hkn, by rw [yy HJ], by go_num, HW3⟩
    case measure => simp [intOf] <;> omega
   ·have hk0' : k = 0 := by omega
    subst hk0'
    rw [if_neg (by omega)] at HJ
    have hc2 : ¬ (⟨#[]⟩ : ByteArray).size + xd.size > 9223372036854775807 := by rw [show (⟨#[]⟩ : ByteArray).size = 0 from rfl]; omega
    rw [yy HJ0] at HJ ⊢
    go_wp2_with fail
    refine ((yy cD) _).mono ?_
    rintro e W3 ⟨rfl, hx3⟩
    have HW3 := yz (ak (yy HW) hx3)
    clear hx3
    go_wp2_with fail
    go_roundw
    case rel => exact ⟨1, hkn, by rw [yy HJ], by go_num, HW3⟩
    case measure => simp [intOf] <;> omega
  ·have hke : k = I.length := by omega
   subst hke
   go_wp2_with fail
   go_ret
   rw [yy HSB]
   exact ⟨rfl, ⟨_, _, (yy HD0).kept (ak (yy HBC) (yy HW))⟩, aM (ak (yy HZ) (ak (yy HBC) (yy HW)))⟩
theorem pr (w : World) (db B : Nat) (t : Tk) (u : U4) (a : Option Addr) (cap : Nat) (tx : ByteArray) (n : Int) (hk : bS t) (hs : tx.size ≤ 9223372036854775807) (hB : B ≤ w.heap.size) (hD : bc w db B t u a cap) :
  Calls Tryz.prog 11 #[.pointer (some ⟨db, 0, none⟩), .agg #[.string ⟨#[115, 116, 97, 116, 101]⟩, .string tx, .int .i64 n]] w fun e w' => e = .returned (.string (jo t)) ∧ (∃ a' cap', bc w' db B t u a' cap') ∧ w.grownBy w' (some db) := by
 have hn : t.L.length ≤ 1048576 := Nat.le_trans hk.1 (by decide)
 have HZ := yz (an w (.cells #[.string ⟨#[115, 116, 97, 116, 101]⟩, .string tx, .int .i64 n] 43))
 have HD0 := yz (hD.kept (yy HZ))
 have HB0 : B ≤ (w.alloc (.cells #[.string ⟨#[115, 116, 97, 116, 101]⟩, .string tx, .int .i64 n] 43)).heap.size := Nat.le_trans hB (yy HZ).size
 have c0 := (ap w [.string ⟨#[115, 116, 97, 116, 101]⟩, .string tx, .int .i64 n] 43).cell 0 _ rfl
 have c1 := (ap w [.string ⟨#[115, 116, 97, 116, 101]⟩, .string tx, .int .i64 n] 43).cell 1 _ rfl
 have c2 := (ap w [.string ⟨#[115, 116, 97, 116, 101]⟩, .string tx, .int .i64 n] 43).cell 2 _ rfl
 have HSB : Hid (jo t = if t.mode = 0 then ⟨#[48, 32, 45]⟩ else (fz t.mode.toNat ++ ⟨#[32]⟩) ++ dc t.A t.B t.C t.D) := yz rfl
 generalize jo t = R at *
 obtain ⟨u1, u2, u3, u4⟩ := u
 obtain ⟨L, lim, mode, A, B', C, D, coast, fr⟩ := t
 obtain ⟨_, hm0, hm2⟩ := hk
 dsimp only at hn hD hm0 hm2 HSB
 have hdl := (yy HD0).lt
 have d2 := (yy HD0).blk.cell 2 _ rfl
 have d3 := (yy HD0).blk.cell 3 _ rfl
 have d4 := (yy HD0).blk.cell 4 _ rfl
 have d5 := (yy HD0).blk.cell 5 _ rfl
 have d6 := (yy HD0).blk.cell 6 _ rfl
 by_cases hm : mode = 0
 case pos =>
  rw [if_pos hm] at HSB
  subst hm
  go_enter Tryz.func11, Tryz.ntmps11
  go_wp2_with fail
  go_ret
  rw [yy HSB]
  exact ⟨rfl, ⟨_, _, yy HD0⟩, aM (yy HZ)⟩
 rw [if_neg hm] at HSB
 have HKS : Hid (∀ w' : World, Below (w.alloc (.cells #[.string ⟨#[115, 116, 97, 116, 101]⟩, .string tx, .int .i64 n] 43)).heap.size (w.alloc (.cells #[.string ⟨#[115, 116, 97, 116, 101]⟩, .string tx, .int .i64 n] 43)) w' → w'.cell? ⟨db, 2, none⟩ = some (.int .i64 mode) ∧ w'.cell? ⟨db, 3, none⟩ = some (.int .i64 A) ∧ w'.cell? ⟨db, 4, none⟩ = some (.int .i64 B') ∧ w'.cell? ⟨db, 5, none⟩ = some (.int .i64 C) ∧ w'.cell? ⟨db, 6, none⟩ = some (.int .i64 D)) := yz (fun w' h => ⟨by rw [h.cell hdl]; exact d2, by rw [h.cell hdl]; exact d3, by rw [h.cell hdl]; exact d4, by rw [h.cell hdl]; exact d5, by rw [h.cell hdl]; exact d6⟩)
 obtain ⟨n', rfl⟩ := Int.eq_ofNat_of_zero_le hm0
 have hnz : ((n' : Int) == 0) = false := by simpa using hm
 have cD := yz (fun W => it n' W (by omega))
 have cX := yz (fun W => mG A B' C D W)
 have hz1 := dN (n := n') (by omega)
 have hz2 := nv A B' C D
 rw [Int.toNat_natCast] at HSB
 generalize fz n' = xd at *
 generalize dc A B' C D = xt at *
 have hc1 : ¬ xd.size + (⟨#[32]⟩ : ByteArray).size > 9223372036854775807 := by rw [show (⟨#[32]⟩ : ByteArray).size = 1 from rfl]; omega
 have hc2 : ¬ (xd ++ ⟨#[32]⟩).size + xt.size > 9223372036854775807 := by rw [ByteArray.size_append, show (⟨#[32]⟩ : ByteArray).size = 1 from rfl]; omega
 have hc3 : ¬ 9223372036854775807 < xd.size + 1 := by omega
 have hc4 : ¬ 9223372036854775807 < xd.size + 1 + xt.size := by omega
 go_enter Tryz.func11, Tryz.ntmps11
 go_upto_region 27 with fail
 generalize w.alloc (.cells #[.string ⟨#[115, 116, 97, 116, 101]⟩, .string tx, .int .i64 n] 43) = W at *
 clear c0 c1 c2
 refine wp_region_held_drew (S := (fun w' => w'.cell? ⟨db, 2, none⟩ = some (.int .i64 (n' : Int)) ∧ w'.cell? ⟨db, 3, none⟩ = some (.int .i64 A) ∧ w'.cell? ⟨db, 4, none⟩ = some (.int .i64 B') ∧ w'.cell? ⟨db, 5, none⟩ = some (.int .i64 C) ∧ w'.cell? ⟨db, 6, none⟩ = some (.int .i64 D))) (by kernel_rfl) (yy HKS W (Below.refl _ _)) (fun hHeld => ?_)
 clear d2 d3 d4 d5 d6
 refine ac 0 rfl ?_
 try simp only [Act.put, ah, ai, aj]
 refine ac 1 rfl ?_
 try simp only [Act.put, ah, ai, aj]
 refine ac 2 rfl ?_
 try simp only [Act.put, ah, ai, aj]
 refine ac 3 rfl ?_
 try simp only [Act.put, ah, ai, aj]
 refine ac 4 rfl ?_
 try simp only [Act.put, ah, ai, aj]
 refine ac 7 rfl ?_
 try simp only [Act.put, ah, ai, aj]
 refine ac 8 rfl ?_
 try simp only [Act.put, ah, ai, aj]
 refine ac 9 rfl ?_
 try simp only [Act.put, ah, ai, aj]
 refine ac 10 rfl ?_
 try simp only [Act.put, ah, ai, aj]
 refine ac 11 rfl ?_
 try simp only [Act.put, ah, ai, aj]
 refine af 5 rfl fun K hK => ?_
 go_simp
 refine ((yy cD) W.drew).mono ?_
 rintro e V1 ⟨rfl, hx⟩
 have HV1 : Hid (Below W.heap.size W V1) := yz ((Below.refl W.heap.size W).drew.trans hx)
 clear hx
 refine hK.out _ _ (yy HKS _ (yy HV1)) (fun hHeld1 => ?_)
 clear hK K hHeld
 refine ac 6 rfl ?_
 try simp only [Act.put, ah, ai, aj]
 refine af 12 rfl fun K hK => ?_
 go_simp
 refine ((yy cX) V1).mono ?_
 rintro e V2 ⟨rfl, hx⟩
 have HV2 := yz (ak (yy HV1) hx)
 clear hx
 refine hK.out _ _ (yy HKS _ (yy HV2)) (fun hHeld => ?_)
 clear hK K hHeld1
 refine ac 13 rfl ?_
 try simp only [Act.put, ah, ai, aj]
 refine af 14 rfl fun K hK => ?_
 go_simp
 refine hK.out _ _ (yy HKS _ (yy HV2)) (fun hHeld1 => ?_)
 clear hK K hHeld
 refine wpAnyH_done (by kernel_rfl) ?_ _
 clear hHeld1
 go_wp2_with fail
 go_ret
 rw [yy HSB]
 exact ⟨rfl, ⟨_, _, (yy HD0).kept (yy HV2)⟩, aM (ak (yy HZ) (yy HV2))⟩
def stD (p : (Tk × U4) × ByteArray) (l : Ln) : (Tk × U4) × ByteArray := ((gU p.1 l).1, p.2 ++ ((gU p.1 l).2 ++ ⟨#[10]⟩))
def dZ : Tk × U4 := (ii im 2, (1, 0, 0, 0))
def ik (ls : List Ln) : (Tk × U4) × ByteArray := ls.foldl stD (dZ, ⟨#[]⟩)
def jj (s : ByteArray) : ByteArray := (ik (eA s)).2
theorem Aw (ls : List Ln) (l : Ln) : ik (ls ++ [l]) = stD (ik ls) l := by unfold ik; rw [List.foldl_append]; rfl
theorem AV : bS dZ.1 := by
 unfold dZ ii
 dsimp only
 split
 ·exact oD
 ·split
  ·exact ⟨by decide, by decide, by decide⟩
  ·exact oD
theorem gN {c : UInt8} : ∀ {s p : List UInt8}, p ∈ pcs c s → p.length ≤ s.length
 | [], p, h => by unfold pcs at h; simp at h; rw [h]; exact Nat.le_refl _
 | x :: xs, p, h => by
  unfold pcs at h
  split at h
  ·rcases List.mem_cons.1 h with h | h
   ·rw [h]; exact Nat.zero_le _
   ·exact Nat.le_succ_of_le (gN h)
  ·rcases List.mem_cons.1 h with h | h
   ·rw [h]
    cases hp : pcs c xs with
    | nil => exact absurd hp (jD _ _)
    | cons q r => have := gN (c := c) (s := xs) (p := q) (by rw [hp]; exact List.mem_cons_self ..); simp; exact this
   ·exact Nat.le_succ_of_le (gN (List.mem_of_mem_tail h))
theorem uz (c : UInt8) : ∀ s : List UInt8, (pcs c s).length ≤ s.length + 1
 | [] => Nat.le_refl _
 | x :: xs => by
  have ih := uz c xs
  have hn := jD c xs
  unfold pcs
  split
  ·simp; exact ih
  ·cases hp : pcs c xs with
   | nil => exact absurd hp hn
   | cons q r => rw [hp] at ih; simp at ih ⊢; omega
def gC (s : ByteArray) (done : List Ln) : Prop := fX s = match dF done.length ((pcs 10 s.data.toList).drop done.length) with | .inl ls => .inl (done ++ ls) | .inr j => .inr j
theorem xf (s : ByteArray) : gC s [] := by
 unfold gC fX
 show dF 0 (pcs 10 s.data.toList) = match dF 0 (pcs 10 s.data.toList) with | .inl ls => .inl ([] ++ ls) | .inr j => .inr j
 cases dF 0 (pcs 10 s.data.toList) <;> rfl
theorem Cm {s : ByteArray} {done : List Ln} (h : gC s done) (hk : (pcs 10 s.data.toList).drop done.length = [[]]) : fX s = .inl done := by
 unfold gC at h
 rw [hk] at h
 rw [h]
 show (match (if ([] : List UInt8) = [] then (.inl [] : List Ln ⊕ Nat) else .inr done.length) with | .inl ls => (.inl (done ++ ls) : List Ln ⊕ Nat) | .inr j => .inr j) = _
 rw [if_pos rfl]
 simp
theorem zT {s : ByteArray} {done : List Ln} {p : List UInt8} (h : gC s done) (hp : p ≠ []) (hk : (pcs 10 s.data.toList).drop done.length = [p]) : fX s = .inr done.length := by
 unfold gC at h
 rw [hk] at h
 rw [h]
 show (match (if p = [] then (.inl [] : List Ln ⊕ Nat) else .inr done.length) with | .inl ls => (.inl (done ++ ls) : List Ln ⊕ Nat) | .inr j => .inr j) = _
 rw [if_neg hp]
theorem AP {s : ByteArray} {done : List Ln} {p q : List UInt8} {r : List (List UInt8)} (h : gC s done) (hk : (pcs 10 s.data.toList).drop done.length = p :: q :: r) (hl : bh p = none) : fX s = .inr done.length := by
 unfold gC at h
 rw [hk, dF, hl] at h
 exact h
theorem Av {s : ByteArray} {done : List Ln} {p q : List UInt8} {r : List (List UInt8)} {l : Ln} (h : gC s done) (hk : (pcs 10 s.data.toList).drop done.length = p :: q :: r) (hl : bh p = some l) (h40 : 40 ≤ done.length) : fX s = .inr done.length := by
 unfold gC at h
 rw [hk, dF, hl] at h
 simp only [if_pos h40] at h
 exact h
theorem Ae {s : ByteArray} {done : List Ln} {p q : List UInt8} {r : List (List UInt8)} {l : Ln} (h : gC s done) (hk : (pcs 10 s.data.toList).drop done.length = p :: q :: r) (hl : bh p = some l) (h40 : ¬ 40 ≤ done.length) : gC s (done ++ [l]) := by
 unfold gC at h ⊢
 have e : (pcs 10 s.data.toList).drop (done ++ [l]).length = q :: r := by
  rw [List.length_append, ← List.drop_drop, hk]; rfl
 rw [e, h, hk, dF, hl]
 simp only [if_neg h40]
 rw [List.length_append]
 show (match (match dF (done.length + 1) (q :: r) with | .inl ls => (.inl (l :: ls) : List Ln ⊕ Nat) | .inr j => .inr j) with | .inl ls => (.inl (done ++ ls) : List Ln ⊕ Nat) | .inr j => .inr j) = match dF (done.length + 1) (q :: r) with | .inl ls => (.inl ((done ++ [l]) ++ ls) : List Ln ⊕ Nat) | .inr j => .inr j
 cases dF (done.length + 1) (q :: r) with
 | inl ls => simp
 | inr j => rfl
theorem te (a b : ByteArray) : Lib.strCells (a ++ b) = Lib.strCells a ++ Lib.strCells b := by unfold Lib.strCells; simp
theorem rM {w : World} {B B' m m' n n' : Nat} {t t' : TypeId} {v v' : Value} {xs xs' : List Value} (h : w.ownsRow B t m v n xs) (h' : w.ownsRow B' t' m' v' n' xs') (ht : t ≠ t') : v.ownBlock = none ∨ v.ownBlock ≠ v'.ownBlock := by
 rcases h.2 with ⟨rfl, _⟩ | ⟨g, cap, cur, rfl, _, hg, _⟩
 ·exact .inl rfl
 ·refine .inr (fun e => ?_)
  rcases h'.2 with ⟨rfl, _⟩ | ⟨g', cap', cur', rfl, _, hg', _⟩
  ·cases e
  ·obtain rfl : g = g' := Option.some.inj e
   rw [hg] at hg'
   injection hg' with e1
   injection e1 with _ e2
   exact ht e2
theorem oE {w : World} {B m n b : Nat} {t t' : TypeId} {v : Value} {xs cs : List Value} (h : w.ownsRow B t m v n xs) (h' : Blk w b cs t') (ht : t ≠ t') : v.ownBlock = none ∨ v.ownBlock ≠ some b := by
 rcases h.2 with ⟨rfl, _⟩ | ⟨g, cap, cur, rfl, _, hg, _⟩
 ·exact .inl rfl
 ·refine .inr (fun e => ?_)
  obtain rfl : g = b := Option.some.inj e
  have h2 : w.heap[g]? = some (.cells cs.toArray t') := h'
  rw [hg] at h2
  injection h2 with e1
  injection e1 with _ e2
  exact ht e2
theorem Df {w : World} {B m n : Nat} {t : TypeId} {v : Value} {xs : List Value} (h : w.ownsRow B t m v n xs) : ∀ g, v.ownBlock = some g → B ≤ g := by
 intro g e
 rcases h.2 with ⟨rfl, _⟩ | ⟨g', cap, cur, rfl, hb, hg, _⟩
 ·cases e
 ·obtain rfl : g' = g := Option.some.inj e
  exact hb
theorem yk {r : List UInt8} {l : Ln} (h : bh r = some l) : l.k ≤ 6 ∧ l.t.length ≤ r.length := by
 have hp : ∀ p ∈ pcs 32 r, p.length ≤ r.length := fun p hp => gN hp
 unfold bh at h
 split at h
 ·cases h
 ·rename_i w q e
  rw [e] at hp
  have T0 : ∀ {k : Nat}, k ≤ 6 → gw k q = some l → l.k ≤ 6 ∧ l.t.length ≤ r.length := by
   intro k hk h
   unfold gw at h
   split at h
   ·injection h with h; subst h; exact ⟨hk, Nat.zero_le _⟩
   ·cases h
  have T1 : ∀ {k : Nat}, k ≤ 6 → hF k q = some l → l.k ≤ 6 ∧ l.t.length ≤ r.length := by
   intro k hk h
   unfold hF at h
   split at h
   ·split at h
    ·cases h
    ·injection h with h; subst h; exact ⟨hk, hp _ (by simp)⟩
   ·cases h
  have T2 : ∀ {k : Nat}, k ≤ 6 → iH k q = some l → l.k ≤ 6 ∧ l.t.length ≤ r.length := by
   intro k hk h
   unfold iH at h
   split at h
   ·split at h
    ·injection h with h; subst h; exact ⟨hk, Nat.zero_le _⟩
    ·cases h
   ·cases h
  split at h
  ·exact T0 (by decide) h
  split at h
  ·exact T1 (by decide) h
  split at h
  ·exact T2 (by decide) h
  split at h
  ·exact T1 (by decide) h
  split at h
  ·exact T0 (by decide) h
  split at h
  ·exact T2 (by decide) h
  split at h
  ·exact T0 (by decide) h
  ·cases h
theorem tp (w : World) (db B : Nat) (d : Tk × U4) (a : Option Addr) (cap : Nat) (l : Ln) (hl : l.k ≤ 6) (hk : bS d.1) (hs : l.t.length ≤ 8000) (hB : B ≤ w.heap.size) (hD : bc w db B d.1 d.2 a cap) :
  Calls Tryz.prog 11 #[.pointer (some ⟨db, 0, none⟩), .agg #[bW (jJ l.k), bW l.t, .int .i64 l.n]] w fun e w' => e = .returned (.string (gU d l).2) ∧ (∃ a' cap', bc w' db B (gU d l).1.1 (gU d l).1.2 a' cap') ∧ w.grownBy w' (some db) := by
 obtain ⟨k, t, n⟩ := l
 obtain ⟨tk, u⟩ := d
 have hs' : (⟨t.toArray⟩ : ByteArray).size ≤ 9223372036854775807 := by show t.toArray.size ≤ _; simp at hs ⊢; omega
 match k, hl with
 | 0, _ => exact qe w db B tk u a cap ⟨t.toArray⟩ n hk hs' hB hD
 | 1, _ => exact pC w db B tk u a cap ⟨t.toArray⟩ n hk hs' hB hD
 | 2, _ => exact tX w db B tk u a cap ⟨t.toArray⟩ n hk hs' hB hD
 | 3, _ => exact qN w db B tk u a cap ⟨t.toArray⟩ n hk hs' hB hD
 | 4, _ => exact pE w db B tk u a cap ⟨t.toArray⟩ n hk hs' hB hD
 | 5, _ => exact tt w db B tk u a cap ⟨t.toArray⟩ n hk hs' hB hD
 | 6, _ => exact pr w db B tk u a cap ⟨t.toArray⟩ n hk hs' hB hD
 | k + 7, h => exact absurd h (by simp)
theorem Eo {w : World} {B g n c : Nat} {D : List (List UInt8)} (h : dK w B (.slice (some ⟨g, 0, none⟩) n c) D) {j : Nat} {x : List UInt8} (hj : D[j]? = some x) : w.cell? ⟨g, j, none⟩ = some (bW x) := by
 have hn : D ≠ [] := fun e => by rw [e] at hj; cases hj
 obtain ⟨g', cap, e, _, _, _, _, h2⟩ := ee h hn
 injection e with e1 e2 e3
 injection e1 with e1
 injection e1 with e1
 subst e1
 exact h2 j x hj
theorem fu {s : ByteArray} (h : eA s = []) : jj s = ⟨#[]⟩ := by unfold jj; rw [h]; rfl
theorem gO (T : Array Value) (X : World) (b : Nat) (t : ByteArray) (n c : Int) (hT : T.getD 2 undef = .pointer (some ⟨b, 0, none⟩)) (h : Blk X b [.string t, .int .i64 n, .int .i64 c] 23) : (results Tryz.f4 T).run Tryz.prog X = .ok (.agg #[.string t, .int .i64 n, .int .i64 c]) X := by
 obtain ⟨h0, h1, h2⟩ := js (h)
 simp only [Array.getD_eq_getD_getElem?] at hT
 simp [results, Tryz.results4, go_sem, hT, h0, h1, h2]
theorem wJ (w : World) (B : Nat) (h : B ≤ w.heap.size) : (w.alloc (.cells #[] 5)).ownsRow B 5 1 (.slice (some ⟨w.heap.size, 0, none⟩) 0 0) 0 (Lib.strCells ⟨#[]⟩) :=
 ⟨rfl, .inr ⟨_, 0, #[], rfl, h, Array.getElem?_push_size, Nat.le_refl _, Nat.zero_le _, rfl, rfl⟩⟩
theorem xV {w : World} {B : Nat} {v : Value} {tx : ByteArray} (h : w.ownsRow B 5 1 v tx.size (Lib.strCells tx)) (hn : v ≠ .slice none 0 0) : (convert 41 9 v).run Tryz.prog w = .ok (.string tx) w := by
 rcases h.2 with ⟨e, _⟩ | ⟨g, cap, cur, rfl, hb, hg, h1, h2, h3, h4⟩
 ·exact absurd e hn
 ·have hl : tx.data.toList.length = tx.size := by simp
  have := run_convert_bytes_back (P := Tryz.prog) w 41 9 5 ⟨g, 0, none⟩ cap tx.data.toList Tryz.underlying41 Tryz.underlying5 Tryz.underlying9 (fun j hj => by
   have e : (Lib.strCells tx)[j]? = some (.int .u8 (tx.data.toList[j]).toNat) := by unfold Lib.strCells; rw [List.getElem?_map, List.getElem?_eq_getElem hj]; rfl
   rw [← h4, List.getElem?_take, if_pos (by omega)] at e
   rw [show (⟨g, 0, none⟩ : Addr).add j = ⟨g, j, none⟩ by cases j <;> simp [Addr.add]]
   rw [cell_of_row w g j cur _ _ hg]
   simpa using e)
  rw [hl] at this
  simpa using this
structure oz (w : World) (db B : Nat) (v3 : Value) (D : List (List UInt8)) (wr : World) (v : Value) (d : Tk × U4) (tx : ByteArray) (a : Option Addr) (cap : Nat) : Prop where
 out : Blk wr w.heap.size [.string ⟨#[]⟩, .int .i64 0, .int .i64 0] 23
 txt : dK wr (w.heap.size + 1) v3 D
 dsk : bc wr db B d.1 d.2 a cap
 row : wr.ownsRow (w.heap.size + 1) 5 1 v tx.size (Lib.strCells tx)
 nn : v ≠ .slice none 0 0
 bel : Below w.heap.size w wr
 low : w.heap.size + 1 ≤ wr.heap.size
 dbl : w.heap.size + 1 ≤ db
 lob : B ≤ wr.heap.size
theorem oz.kept {w wr w2 : World} {db B : Nat} {v3 v : Value} {D : List (List UInt8)} {d : Tk × U4} {tx : ByteArray} {a : Option Addr} {cap : Nat} (h : oz w db B v3 D wr v d tx a cap) (hx : Below wr.heap.size wr w2) : oz w db B v3 D w2 v d tx a cap :=
 ⟨h.out.kept hx, bm h.txt hx, h.dsk.kept hx, bm h.row hx, h.nn, ak h.bel hx, Nat.le_trans h.low hx.size, h.dbl, Nat.le_trans h.lob hx.size⟩
theorem oz.line {w wr w2 : World} {db B : Nat} {v3 v : Value} {D : List (List UInt8)} {d d2 : Tk × U4} {tx : ByteArray} {a a2 : Option Addr} {cap cap2 : Nat} (h : oz w db B v3 D wr v d tx a cap) (hg : wr.grownBy w2 (some db)) (hD : bc w2 db B d2.1 d2.2 a2 cap2) : oz w db B v3 D w2 v d2 tx a2 cap2 :=
 ⟨h.out.grown hg (fun e => by have := h.dbl; have := Option.some.inj e; omega), World.ownsRow.kept h.txt hg (oE h.txt h.dsk.blk (by decide)), hD, World.ownsRow.kept h.row hg (oE h.row h.dsk.blk (by decide)), h.nn, nu h.bel hg (Nat.le_of_succ_le h.low) (fun g e => by have := Option.some.inj e; have := h.dbl; omega), Nat.le_trans h.low hg.size, h.dbl, Nat.le_trans h.lob hg.size⟩
theorem oz.app {w wr w2 : World} {db B : Nat} {v3 v v' : Value} {D : List (List UInt8)} {d : Tk × U4} {tx tx' : ByteArray} {a : Option Addr} {cap : Nat} (h : oz w db B v3 D wr v d tx a cap) (hg : wr.grownBy w2 v.ownBlock) (hr : w2.ownsRow (w.heap.size + 1) 5 1 v' tx'.size (Lib.strCells tx')) (hn : v' ≠ .slice none 0 0) : oz w db B v3 D w2 v' d tx' a cap := by
 have hlt := Df h.row
 refine ⟨h.out.grown hg (fun e => by have := hlt _ e.symm; omega), World.ownsRow.kept h.txt hg (rM h.txt h.row (by decide)), ⟨h.dsk.blk.grown hg ?_, World.ownsRow.kept h.dsk.sky hg (rM h.dsk.sky h.row (by decide)), h.dsk.far⟩, hr, hn, nu h.bel hg (Nat.le_of_succ_le h.low) (fun g e => by have := hlt g e; omega), Nat.le_trans h.low hg.size, h.dbl, Nat.le_trans h.lob hg.size⟩
 rcases oE h.row h.dsk.blk (by decide) with e | e
 ·rw [e]; intro e2; cases e2
 ·exact fun e2 => e e2.symm
theorem ox (s : ByteArray) (w : World) (hs : s.size ≤ 1048576) :
  Calls Tryz.prog 4 #[.string s] w fun e w' => e = .returned (.agg #[.string (jj s), .int .i64 (fZ s), .int .i64 (fE s)]) ∧ Below w.heap.size w w' := by
 have R0 := ap w [.string ⟨#[]⟩, .int .i64 0, .int .i64 0] 23
 by_cases hb : 8000 < s.size
 ·have hb' : (8000 : Int) < (s.size : Int) := by omega
  have HO := yz (AK hb)
  go_enter Tryz.func4, Tryz.ntmps4
  go_wp2
  refine bodyPost_ret (v := .agg #[.string ⟨#[]⟩, .int .i64 0, .int .i64 2]) ?_ rfl ⟨by rw [(yy HO).2.1, (yy HO).2.2, fu (yy HO).1], an _ _⟩
  ·simp [results, Tryz.results4, go_sem]
 have hb' : ¬ (8000 : Int) < (s.size : Int) := by omega
 have HG := yz (fun L h => yx (s := s) hb (L := L) h)
 have HFT := yz (fun i h => uU (s := s) hb (i := i) h)
 have HL0 := yz (xf s)
 have hDn : pcs 10 s.data.toList ≠ [] := jD _ _
 have HSH := yz (fun p h => gN (c := 10) (s := s.data.toList) (p := p) h)
 have hDm := uz 10 s.data.toList
 rw [bg] at hDm
 obtain ⟨i0, hinf, hz0, hz1, hz2⟩ := infoByte
 have hm8 : 10000 ≤ maxLen := by decide +kernel
 have H0 : Hid (dZ = (ii im 2, (1, 0, 0, 0))) := yz rfl
 have hok0 := AV
 have HB0 := yz (an w (.cells #[.string ⟨#[]⟩, .int .i64 0, .int .i64 0] 23))
 have hW0 : (w.alloc (.cells #[.string ⟨#[]⟩, .int .i64 0, .int .i64 0] 23)).heap.size = w.heap.size + 1 := by simp
 have cS : Hid (Calls Tryz.prog 7 #[.string s, .int .u8 10] (w.alloc (.cells #[.string ⟨#[]⟩, .int .i64 0, .int .i64 0] 23)) fun e w' => (∃ v, e = .returned v ∧ dK w' (w.alloc (.cells #[.string ⟨#[]⟩, .int .i64 0, .int .i64 0] 23)).heap.size v (pcs 10 s.data.toList)) ∧ Below (w.alloc (.cells #[.string ⟨#[]⟩, .int .i64 0, .int .i64 0] 23)).heap.size (w.alloc (.cells #[.string ⟨#[]⟩, .int .i64 0, .int .i64 0] 23)) w') := yz (ce s 10 (w.alloc (.cells #[.string ⟨#[]⟩, .int .i64 0, .int .i64 0] 23)) (by omega))
 have cN : Hid (∀ W : World, Calls Tryz.prog 8 #[.slice (some ⟨W.heap.size, 0, none⟩) 6 6, .int .i64 2] (W.alloc fl) fun e w' => ol w' (W.alloc fl).heap.size (ii im 2) (jM im 2) e ∧ Below (W.alloc fl).heap.size (W.alloc fl) w') := yz (fun W => uH im 2 W.heap.size 0 6 (W.alloc fl) (by decide) (rK (yG W)))
 have HR0 := yz R0
 clear R0
 have HLE : Hid (∀ done, gC s done → gC s done) := yz (fun _ h => h)
 obtain ⟨D, HDD⟩ : ∃ D, Hid (pcs 10 s.data.toList = D) := ⟨_, yz rfl⟩
 rw [yy HDD] at hDn HSH hDm cS
 obtain ⟨t0, ht0⟩ : ∃ t0, ii im 2 = t0 := ⟨_, rfl⟩
 rw [ht0] at cN H0
 rw [yy H0] at hok0
 clear ht0
 generalize jM im 2 = c0 at *
 obtain ⟨L0, i1, i2, i3, i4, i5, i6, i7, i8⟩ := t0
 go_enter Tryz.func4, Tryz.ntmps4
 go_wp2_with fail
 refine (yy cS).mono ?_
 rintro e W1 ⟨⟨v3, rfl, hT⟩, hx⟩
 obtain ⟨g3, c3, rfl, _, _, _, hg3, _⟩ := ee hT hDn
 have HT1 : Hid (dK W1 (w.heap.size + 1) (.slice (some ⟨g3, 0, none⟩) D.length c3) D) := yz (by rw [← hW0]; exact hT)
 have HR1 := yz ((yy HR0).kept hx)
 have HB1 := yz (ak (yy HB0) hx)
 have hs1 : w.heap.size + 1 ≤ W1.heap.size := by have := hx.size; omega
 clear hT hx cS HB0 HR0
 go_wp2_with fail
 refine (sU W1).mono ?_
 rintro e W2 ⟨rfl, rfl⟩
 go_wp2_with fail
 refine ((yy cN) W1).mono ?_
 rintro e W2 ⟨⟨a2, cap2, rfl, hC⟩, hx⟩
 have hx' := ak (an W1 fl) hx
 have HC2 := yz (cg hC (show W1.heap.size ≤ (W1.alloc fl).heap.size by simp))
 have HT2 := yz (bm (yy HT1) hx')
 have HR2 := yz ((yy HR1).kept hx')
 have HB2 := yz (ak (yy HB1) hx')
 have hs2 : W1.heap.size ≤ W2.heap.size := hx'.size
 have HF2 : Hid (∀ x, a2 = some x → x.block ≠ W2.heap.size) := yz (fun x e => Nat.ne_of_lt (bX hC x e).2)
 clear hC hx hx' HT1 HR1 HB1 cN
 have hft := Ce W2 a2 L0.length cap2 i1 i2 i3 i4 i5 i6 i7 i8 c0
 go_wp2_with fail
 have hy := aO W2 (.cells #[.slice a2 L0.length cap2, .int .i64 i1, .int .i64 i2, .int .i64 i3, .int .i64 i4, .int .i64 i5, .int .i64 i6, .int .i64 i7, .int .i64 i8, .int .i64 1, .int .i64 0, .int .i64 0, .int .i64 0] 40) (.cells #[] 5)
 have HST0 : Hid (oz w W2.heap.size W1.heap.size (.slice (some ⟨g3, 0, none⟩) D.length c3) D ((W2.alloc (.cells #[.slice a2 L0.length cap2, .int .i64 i1, .int .i64 i2, .int .i64 i3, .int .i64 i4, .int .i64 i5, .int .i64 i6, .int .i64 i7, .int .i64 i8, .int .i64 1, .int .i64 0, .int .i64 0, .int .i64 0] 40)).alloc (.cells #[] 5)) (.slice (some ⟨(W2.alloc (.cells #[.slice a2 L0.length cap2, .int .i64 i1, .int .i64 i2, .int .i64 i3, .int .i64 i4, .int .i64 i5, .int .i64 i6, .int .i64 i7, .int .i64 i8, .int .i64 1, .int .i64 0, .int .i64 0, .int .i64 0] 40)).heap.size, 0, none⟩) 0 0) (ik []).1 (ik []).2 a2 cap2) := yz (by
  have e : ik [] = ((⟨L0, i1, i2, i3, i4, i5, i6, i7, i8⟩, (1, 0, 0, 0)), ⟨#[]⟩) := by show (dZ, _) = _; rw [yy H0]
  rw [e]
  exact ⟨(yy HR2).kept hy, bm (yy HT2) hy, ⟨(ap W2 [.slice a2 L0.length cap2, .int .i64 i1, .int .i64 i2, .int .i64 i3, .int .i64 i4, .int .i64 i5, .int .i64 i6, .int .i64 i7, .int .i64 i8, .int .i64 1, .int .i64 0, .int .i64 0, .int .i64 0] 40).alloc _, bm (yy HC2) hy, yy HF2⟩, wJ _ _ (by simp; omega), (fun e => by cases e), ak (yy HB2) hy, by simp; omega, by omega, by simp; omega⟩)
 have hok1 : bS (ik []).1.1 := by show bS dZ.1; rw [yy H0]; exact hok0
 have hsz1 : (W2.alloc (.cells #[.slice a2 L0.length cap2, .int .i64 i1, .int .i64 i2, .int .i64 i3, .int .i64 i4, .int .i64 i5, .int .i64 i6, .int .i64 i7, .int .i64 i8, .int .i64 1, .int .i64 0, .int .i64 0, .int .i64 0] 40)).heap.size = W2.heap.size + 1 := by simp
 try rw [hsz1] at HST0
 clear hy HT2 HR2 HB2 HC2 HF2 H0 hok0 hsz1
 generalize (W2.alloc (.cells #[.slice a2 L0.length cap2, .int .i64 i1, .int .i64 i2, .int .i64 i3, .int .i64 i4, .int .i64 i5, .int .i64 i6, .int .i64 i7, .int .i64 i8, .int .i64 1, .int .i64 0, .int .i64 0, .int .i64 0] 40)).alloc (.cells #[] 5) = W3 at *
 generalize W2.heap.size = db at *
 generalize W1.heap.size = B at *
 have hDp : 0 < D.length := List.length_pos_iff.2 hDn
 go_loopw [5, 6] (fun v kk wr => ∃ (k : Nat) (done : List Ln) (a : Option Addr) (cap : Nat), Hid (done.length = k) ∧ kk = .int .i64 k ∧ k < D.length ∧ k ≤ 40 ∧ Hid (gC s done) ∧ bS (ik done).1.1 ∧ Hid ((ik done).2.size ≤ 71 * k) ∧ Hid (oz w db B (.slice (some ⟨g3, 0, none⟩) D.length c3) D wr v (ik done).1 (ik done).2 a cap)) (fun _ kk _ => D.length - (intOf kk).toNat)
 case atStart => exact ⟨0, [], a2, cap2, yz rfl, rfl, hDp, by omega, HL0, hok1, yz (Nat.zero_le _), HST0⟩
 case round =>
  clear HST0 hok1 HL0
  obtain ⟨k, done, a', cap', HN, rfl, hkD, hk40, HL, hok, HSZ, HS⟩ := hrel
  obtain ⟨p, hp⟩ : ∃ p, D[k]? = some p := ⟨_, List.getElem?_eq_getElem hkD⟩
  have cl := Eo (yy HS).txt hp
  have hps : p.length ≤ 8000 := by have := yy HSH p (List.mem_of_getElem? hp); rw [bg] at this; omega
  have cR := yz (fun W => vK ⟨p.toArray⟩ W (by show p.toArray.size ≤ 8000; simpa using hps))
  have HDR : Hid (D.drop k = p :: D.drop (k + 1)) := yz (by rw [List.drop_eq_getElem_cons hkD]; rw [List.getElem?_eq_getElem hkD] at hp; rw [Option.some.inj hp])
  unfold bW at cl
  clear hp
  obtain ⟨pb, hpb⟩ : ∃ pb : ByteArray, (⟨p.toArray⟩ : ByteArray) = pb := ⟨_, rfl⟩
  have HPB : Hid (pb.data.toList = p) := yz (by rw [← hpb])
  have HPE : Hid (p ≠ [] → pb.toList.isEmpty = false ∧ (pb.toList == []) = false) := yz (fun h => by
   have e : pb.toList = p := by rw [ByteArray.toList_eq, ← hpb]
   rw [e]
   cases p with
   | nil => exact absurd rfl h
   | cons x xs => exact ⟨rfl, rfl⟩)
  have HPN : Hid (p = [] → pb = ⟨#[]⟩) := yz (fun h => by rw [← hpb, h])
  rw [hpb] at cl cR
  clear hpb
  by_cases hlast : k + 1 = D.length
  ·have el : ((k : Int) == (D.length : Int) - 1) = true := by simp; omega
   have HDR1 : Hid ((pcs 10 s.data.toList).drop done.length = [p]) := yz (by rw [yy HDD, yy HN, yy HDR, List.drop_of_length_le (by omega)])
   by_cases hpe : p = []
   ·have hpb0 := yy HPN hpe
    subst hpb0
    rw [hpe] at HDR1
    have hDP := yz (Cm (yy HL) (yy HDR1))
    have HR := yz (yy HG done (yy hDP))
    have hcv := xV (yy HS).row (yy HS).nn
    have r0 := (yy HS).out.cell 0 _ rfl
    have f0 := (yy HS).out.free 0
    have r1 := (yy HS).out.cell 1 _ rfl
    have f1 := (yy HS).out.free 1
    have r2 := (yy HS).out.cell 2 _ rfl
    have f2 := (yy HS).out.free 2
    have HTX : Hid (jj s = (ik done).2) := yz (by unfold jj; rw [(yy HR).1])
    generalize (ik done).2 = tx at *
    go_wp2_with fail
    refine bodyPost_ret (v := .agg #[.string tx, .int .i64 0, .int .i64 0]) ?_ rfl ⟨?_, ?_⟩
    ·refine gO _ _ w.heap.size _ _ _ rfl ?_
     exact (((yy HS).out.set 0 _).set 1 _).set 2 _
    ·rw [(yy HR).2.1, (yy HR).2.2, yy HTX]
    ·exact ((((yy HS).bel.setCell (Nat.le_refl _) _).setCell (Nat.le_refl _) _).setCell (Nat.le_refl _) _)
   ·obtain ⟨hpe1, hpe2⟩ := yy HPE hpe
    have hDP := yz (zT (yy HL) hpe (yy HDR1))
    rw [yy HN] at hDP
    go_wp2_with fail
    refine ((yy cR) _).mono ?_
    rintro e V1 ⟨hle, hx⟩
    have ST1 := yz ((yy HS).kept hx)
    clear hx
    unfold dV at hle
    rcases hle with ⟨l, _, rfl⟩ | ⟨_, xa, xb, xn, rfl⟩
    ·obtain ⟨wb, hwb⟩ : ∃ wb : ByteArray, bW (jJ l.k) = .string wb := ⟨_, rfl⟩
     obtain ⟨tb, htb⟩ : ∃ tb : ByteArray, bW l.t = .string tb := ⟨_, rfl⟩
     rw [hwb, htb]
     clear hwb htb
     have ST3 := yz ((yy ST1).kept (an V1 (.cells #[.string wb, .string tb, .int .i64 l.n] 43)))
     have r0 := (yy ST3).out.cell 0 _ rfl
     have f0 := (yy ST3).out.free 0
     have r1 := (yy ST3).out.cell 1 _ rfl
     have f1 := (yy ST3).out.free 1
     have r2 := (yy ST3).out.cell 2 _ rfl
     have f2 := (yy ST3).out.free 2
     have HR := yz (yy HFT k (yy hDP))
     go_wp2_with fail
     refine bodyPost_ret (v := .agg #[.string ⟨#[]⟩, .int .i64 k, .int .i64 3]) ?_ rfl ⟨?_, ?_⟩
     ·refine gO _ _ w.heap.size _ _ _ rfl ?_
      exact (((yy ST3).out.set 0 _).set 1 _).set 2 _
     ·rw [(yy HR).2.1, (yy HR).2.2, fu (yy HR).1]
     ·exact ((((yy ST3).bel.setCell (Nat.le_refl _) _).setCell (Nat.le_refl _) _).setCell (Nat.le_refl _) _)
    ·have ST3 := yz ((yy ST1).kept (an V1 (.cells #[.string xa, .string xb, .int .i64 xn] 43)))
     have r0 := (yy ST3).out.cell 0 _ rfl
     have f0 := (yy ST3).out.free 0
     have r1 := (yy ST3).out.cell 1 _ rfl
     have f1 := (yy ST3).out.free 1
     have r2 := (yy ST3).out.cell 2 _ rfl
     have f2 := (yy ST3).out.free 2
     have HR := yz (yy HFT k (yy hDP))
     go_wp2_with fail
     refine bodyPost_ret (v := .agg #[.string ⟨#[]⟩, .int .i64 k, .int .i64 3]) ?_ rfl ⟨?_, ?_⟩
     ·refine gO _ _ w.heap.size _ _ _ rfl ?_
      exact (((yy ST3).out.set 0 _).set 1 _).set 2 _
     ·rw [(yy HR).2.1, (yy HR).2.2, fu (yy HR).1]
     ·exact ((((yy ST3).bel.setCell (Nat.le_refl _) _).setCell (Nat.le_refl _) _).setCell (Nat.le_refl _) _)
  ·have el : ((k : Int) == (D.length : Int) - 1) = false := by simp; omega
   obtain ⟨q, r, HDR2⟩ : ∃ q r, Hid ((pcs 10 s.data.toList).drop done.length = p :: q :: r) := ⟨_, _, yz (by rw [yy HDD, yy HN, yy HDR, List.drop_eq_getElem_cons (show k + 1 < D.length by omega)])⟩
   go_wp2_with fail
   refine ((yy cR) _).mono ?_
   rintro e V1 ⟨hle, hx⟩
   have ST1 := yz ((yy HS).kept hx)
   clear hx cl
   unfold dV at hle
   rw [yy HPB] at hle
   rcases hle with ⟨l, hl, rfl⟩ | ⟨hl, xa, xb, xn, rfl⟩
   case inr =>
    have hDP := yz (AP (yy HL) (yy HDR2) hl)
    rw [yy HN] at hDP
    have ST3 := yz ((yy ST1).kept (an V1 (.cells #[.string xa, .string xb, .int .i64 xn] 43)))
    by_cases h40 : 40 ≤ k
    ·have h40' : (40 : Int) ≤ (k : Int) := by omega
     have r0 := (yy ST3).out.cell 0 _ rfl
     have f0 := (yy ST3).out.free 0
     have r1 := (yy ST3).out.cell 1 _ rfl
     have f1 := (yy ST3).out.free 1
     have r2 := (yy ST3).out.cell 2 _ rfl
     have f2 := (yy ST3).out.free 2
     have HR := yz (yy HFT k (yy hDP))
     go_wp2_with fail
     refine bodyPost_ret (v := .agg #[.string ⟨#[]⟩, .int .i64 k, .int .i64 3]) ?_ rfl ⟨?_, ?_⟩
     ·refine gO _ _ w.heap.size _ _ _ rfl ?_
      exact (((yy ST3).out.set 0 _).set 1 _).set 2 _
     ·rw [(yy HR).2.1, (yy HR).2.2, fu (yy HR).1]
     ·exact ((((yy ST3).bel.setCell (Nat.le_refl _) _).setCell (Nat.le_refl _) _).setCell (Nat.le_refl _) _)
    ·have h40' : ¬ (40 : Int) ≤ (k : Int) := by omega
     have r0 := (yy ST3).out.cell 0 _ rfl
     have f0 := (yy ST3).out.free 0
     have r1 := (yy ST3).out.cell 1 _ rfl
     have f1 := (yy ST3).out.free 1
     have r2 := (yy ST3).out.cell 2 _ rfl
     have f2 := (yy ST3).out.free 2
     have HR := yz (yy HFT k (yy hDP))
     go_wp2_with fail
     refine bodyPost_ret (v := .agg #[.string ⟨#[]⟩, .int .i64 k, .int .i64 3]) ?_ rfl ⟨?_, ?_⟩
     ·refine gO _ _ w.heap.size _ _ _ rfl ?_
      exact (((yy ST3).out.set 0 _).set 1 _).set 2 _
     ·rw [(yy HR).2.1, (yy HR).2.2, fu (yy HR).1]
     ·exact ((((yy ST3).bel.setCell (Nat.le_refl _) _).setCell (Nat.le_refl _) _).setCell (Nat.le_refl _) _)
   have HLN := yz (fun (W : World) db B d a cap => tp W db B d a cap l)
   obtain ⟨wb, hwb⟩ : ∃ wb : ByteArray, bW (jJ l.k) = .string wb := ⟨_, rfl⟩
   obtain ⟨tb, htb⟩ : ∃ tb : ByteArray, bW l.t = .string tb := ⟨_, rfl⟩
   rw [hwb, htb] at HLN ⊢
   clear hwb htb
   have ST3 := yz ((yy ST1).kept (an V1 (.cells #[.string wb, .string tb, .int .i64 l.n] 43)))
   by_cases h40 : 40 ≤ k
   ·have hDP := yz (Av (yy HL) (yy HDR2) hl (by rw [yy HN]; exact h40))
    rw [yy HN] at hDP
    have h40' : (40 : Int) ≤ (k : Int) := by omega
    have r0 := (yy ST3).out.cell 0 _ rfl
    have f0 := (yy ST3).out.free 0
    have r1 := (yy ST3).out.cell 1 _ rfl
    have f1 := (yy ST3).out.free 1
    have r2 := (yy ST3).out.cell 2 _ rfl
    have f2 := (yy ST3).out.free 2
    have HR := yz (yy HFT k (yy hDP))
    go_wp2_with fail
    refine bodyPost_ret (v := .agg #[.string ⟨#[]⟩, .int .i64 k, .int .i64 3]) ?_ rfl ⟨?_, ?_⟩
    ·refine gO _ _ w.heap.size _ _ _ rfl ?_
     exact (((yy ST3).out.set 0 _).set 1 _).set 2 _
    ·rw [(yy HR).2.1, (yy HR).2.2, fu (yy HR).1]
    ·exact ((((yy ST3).bel.setCell (Nat.le_refl _) _).setCell (Nat.le_refl _) _).setCell (Nat.le_refl _) _)
   ·have h40' : ¬ (40 : Int) ≤ (k : Int) := by omega
    have HL2 := yz (Ae (yy HL) (yy HDR2) hl (by rw [yy HN]; exact h40))
    have hlk := yk hl
    have x0 := (ap V1 [.string wb, .string tb, .int .i64 l.n] 43).cell 0 _ rfl
    have x1 := (ap V1 [.string wb, .string tb, .int .i64 l.n] 43).cell 1 _ rfl
    have x2 := (ap V1 [.string wb, .string tb, .int .i64 l.n] 43).cell 2 _ rfl
    have cL := yz ((yy HLN) (V1.alloc (.cells #[.string wb, .string tb, .int .i64 l.n] 43)) db B (ik done).1 a' cap' hlk.1 hok (Nat.le_trans hlk.2 hps) (yy ST3).lob (yy ST3).dsk)
    have hok2 := CS hok l
    have hz2' := pi hok l
    have HRN := yz (Aw done l)
    go_wp2_with fail
    refine (yy cL).mono ?_
    rintro e V4 ⟨rfl, ⟨a4, cap4, hD4⟩, hg4⟩
    have ST4 := yz ((yy ST3).line hg4 (d2 := (gU (ik done).1 l).1) hD4)
    clear hD4 hg4 x0 x1 x2 cL
    unfold stD at HRN
    generalize gU (ik done).1 l = R at *
    obtain ⟨d4, x4⟩ := R
    dsimp only at hok2 hz2' HRN ST4
    generalize (ik done).2 = tx at *
    have hszt := yy HSZ
    have hc : ¬ x4.size + (⟨#[10]⟩ : ByteArray).size > 9223372036854775807 := by rw [show (⟨#[10]⟩ : ByteArray).size = 1 from rfl]; omega
    have hown := (yy ST4).row
    have hlo := (yy ST4).low
    have hsx : (x4 ++ ⟨#[10]⟩).size = x4.size + 1 := by rw [ByteArray.size_append]; rfl
    go_wp2_with (at_builtin; refine Lib.wpList_append_own_string _ rfl (.tmp 61) (.tmp 65) 41 9 rfl (w.heap.size + 1) 5 i0 Tryz.underlying41 Tryz.underlying9 hinf hz0 hz1 hz2 _ _ _ rfl hown (x4 ++ ⟨#[10]⟩) rfl ?d3 ?d4 ?d5 ?_; rotate_right; intro v7 V7 hown7 hgrow7 hnil7)
    case d3 => rw [hsx]; omega
    case d4 => rw [hsx]; omega
    case d5 => exact hlo
    have HST7 : Hid (oz w db B (.slice (some ⟨g3, 0, none⟩) D.length c3) D V7 v7 (ik (done ++ [l])).1 (ik (done ++ [l])).2 a4 cap4) := yz (by
     rw [yy HRN]
     refine (yy ST4).app hgrow7 ?_ (fun e => (yy ST4).nn (hnil7.1 e).1)
     rw [te, ByteArray.size_append]
     exact hown7)
    have HSZ7 : Hid ((ik (done ++ [l])).2.size ≤ 71 * (k + 1)) := yz (by rw [yy HRN]; show (tx ++ (x4 ++ ⟨#[10]⟩)).size ≤ _; rw [ByteArray.size_append, hsx]; omega)
    have hok7 : bS (ik (done ++ [l])).1.1 := by rw [yy HRN]; exact hok2
    have HN7 : Hid ((done ++ [l]).length = k + 1) := yz (by rw [List.length_append, yy HN]; rfl)
    clear hown7 hgrow7 hnil7 hown hok2 HRN
    go_wp2_with fail
    go_roundw
    case rel => exact ⟨k + 1, done ++ [l], a4, cap4, HN7, by go_num, by omega, by omega, HL2, hok7, HSZ7, HST7⟩
    case measure => simp [intOf] <;> omega
theorem pJ (t : ByteArray) (n c : Int) (w : World) : Calls Tryz.prog 6 #[.agg #[.string t, .int .i64 n, .int .i64 c], .agg #[.string t, .int .i64 n, .int .i64 c]] w fun e w' => e = .returned (.bool true) ∧ Below w.heap.size w w' := by
 go_enter Tryz.func6, Tryz.ntmps6
 go_wp2
 go_ret
 exact ⟨rfl, aO _ _ _⟩
end
end Go.Proofs.YtlleafjdgblhcaaGreatDoor
