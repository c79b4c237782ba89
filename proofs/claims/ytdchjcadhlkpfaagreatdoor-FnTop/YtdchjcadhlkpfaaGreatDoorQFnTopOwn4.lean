/- Several texts in one: RowV, WideT, ObM, IdA, IdB, IdC, ListI, IdW, Join, Src, Src2, Src3, LwT, SkyW, DkW. -/
import Derived.OwnWalk
import Derived.Laws.OwnMore
import Derived.Lib.QuietBelow
import Derived.Deep.QuietTactic
import Derived.BigQuiet
import Derived.Test.YtdchjcadhlkpfaaGreatDoorRows
import Derived.Deep.Slices
import Derived.Deep.Strs
import Derived.LaidHandle
import Derived.LaidMore
import Derived.ProofKit
import Derived.WalkKit
import Derived.WalkSpells
import Derived.WalkLawsBesides
import Derived.RegionTactic
import Derived.BigRegion
import Derived.OpenShut
import Derived.Stop.LaidErr
import Derived.Test.YtdchjcadhlkpfaaGreatDoorQFnTopOwn1
namespace Go.Proofs.YtdchjcadhlkpfaaGreatDoor
set_option linter.unusedVariables false
set_option linter.unusedSimpArgs false
set_option maxRecDepth 100000
set_option maxHeartbeats 8000000
section
open Go.RowKit
def bt (w : World) (t : TypeId) (g m : Nat) (f : Nat → Value) : Prop := ∃ cur : Array Value, w.heap[g]? = some (.cells cur t (0, 0)) ∧ ∀ j, j < m → cur[j]? = some (f j)
theorem bt.lt {w : World} {t : TypeId} {g m : Nat} {f : Nat → Value} (h : bt w t g m f) : g < w.heap.size := by
 obtain ⟨cur, hc, _⟩ := h
 exact (Array.getElem?_eq_some_iff.1 hc).1
theorem bt.same {w w' : World} {t : TypeId} {g m : Nat} {f : Nat → Value} (h : bt w t g m f) (e : w'.heap[g]? = w.heap[g]?) : bt w' t g m f := by
 obtain ⟨cur, hc, hs⟩ := h
 exact ⟨cur, by rw [e]; exact hc, hs⟩
theorem bt.kept {w w' : World} {t : TypeId} {g m : Nat} {f : Nat → Value} (h : bt w t g m f) (hB : Below w.heap.size w w') : bt w' t g m f := h.same (hB.block g h.lt)
theorem bt.congr {w : World} {t : TypeId} {g m : Nat} {f f' : Nat → Value} (h : bt w t g m f) (e : ∀ j, j < m → f j = f' j) : bt w t g m f' := by
 obtain ⟨cur, hc, hs⟩ := h
 exact ⟨cur, hc, fun j hj => by rw [hs j hj, e j hj]⟩
theorem bt.cell {w : World} {t : TypeId} {g m j : Nat} {f : Nat → Value} (h : bt w t g m f) (hj : j < m) : w.cell? ⟨g, j, none⟩ = some (f j) := by
 obtain ⟨cur, hc, hs⟩ := h
 rw [cell_of_row w g j cur t _ hc]
 exact hs j hj
theorem bt.free {w : World} {t : TypeId} {g m : Nat} {f : Nat → Value} (h : bt w t g m f) (j : Nat) : w.frozen? ⟨g, j, none⟩ = false := by
 obtain ⟨cur, hc, _⟩ := h
 exact frozen_of_row w g j cur t hc
theorem bt.set {w : World} {t : TypeId} {g m : Nat} {f : Nat → Value} (h : bt w t g m f) (i : Nat) (v : Value) : bt (w.setCell ⟨g, i, none⟩ v) t g m (fun j => if j = i then v else f j) := by
 obtain ⟨cur, hc, hs⟩ := h
 refine ⟨_, heap_setCell_same w g i cur t v hc, fun j hj => ?_⟩
 have := hs j hj
 rw [Array.getElem?_setIfInBounds]
 by_cases e : i = j
 ·subst e
  simp [(Array.getElem?_eq_some_iff.1 this).1]
 ·have e' : ¬ j = i := fun h => e (Eq.symm h)
  simp [e, e', this]
structure lj (lo hi : Nat) (w w' : World) : Prop where
 os : w'.os = w.os
 tape : w'.tape = w.tape
 output : w'.output = w.output
 size : w.heap.size ≤ w'.heap.size
 block : ∀ k, k < w.heap.size → (k < lo ∨ hi ≤ k) → w'.heap[k]? = w.heap[k]?
theorem lj.refl (lo hi : Nat) (w : World) : lj lo hi w w := ⟨rfl, rfl, rfl, Nat.le_refl _, fun _ _ _ => rfl⟩
theorem lj.of {lo hi g : Nat} {w w' : World} (h : w.grownBy w' (some g)) (h1 : lo ≤ g) (h2 : g < hi) : lj lo hi w w' := ⟨h.os, h.tape, h.output, h.size, fun k hk hne => h.block k hk (fun e => by have := Option.some.inj e; omega)⟩
theorem lj.below {B lo hi : Nat} {w w1 w2 : World} (h : Below B w w1) (ha : lj lo hi w1 w2) (h1 : B ≤ lo) (h2 : B ≤ w1.heap.size) : Below B w w2 :=
 h.trans ⟨ha.os, ha.tape, ha.output, ha.size, fun k hk => ha.block k (by omega) (.inl (by omega))⟩
def ie (w : World) (t : TypeId) (c lo hi n : Nat) (v : Value) (f : Nat → Value) : Prop := (n = 0 ∧ ∃ a cap, v = .slice a 0 cap) ∨ ∃ g cap, v = .slice (some ⟨g, 0, none⟩) n cap ∧ lo ≤ g ∧ g < hi ∧ bt w t g (n * c) f
theorem ie.kept {w w' : World} {t : TypeId} {c lo hi n : Nat} {v : Value} {f : Nat → Value} (h : ie w t c lo hi n v f) (hB : Below w.heap.size w w') : ie w' t c lo hi n v f := by
 rcases h with h | ⟨g, cap, hv, h1, h2, hr⟩
 ·exact .inl h
 ·exact .inr ⟨g, cap, hv, h1, h2, hr.kept hB⟩
theorem ie.apart {w w' : World} {t : TypeId} {c lo hi l h n : Nat} {v : Value} {f : Nat → Value} (hp : ie w t c lo hi n v f) (ha : lj l h w w') (hd : hi ≤ l ∨ h ≤ lo) : ie w' t c lo hi n v f := by
 rcases hp with hp | ⟨g, cap, hv, h1, h2, hr⟩
 ·exact .inl hp
 ·exact .inr ⟨g, cap, hv, h1, h2, hr.same (ha.block g hr.lt (by omega))⟩
theorem ie.wide {w : World} {t : TypeId} {c lo hi lo' hi' n : Nat} {v : Value} {f : Nat → Value} (h : ie w t c lo hi n v f) (h1 : lo' ≤ lo) (h2 : hi ≤ hi') : ie w t c lo' hi' n v f := by
 rcases h with h | ⟨g, cap, hv, g1, g2, hr⟩
 ·exact .inl h
 ·exact .inr ⟨g, cap, hv, by omega, by omega, hr⟩
theorem ie.of {w : World} {t : TypeId} {c B n : Nat} {v : Value} {xs : List Value} {f : Nat → Value} (h : w.ownsRow B t c v n xs) (hf : ∀ j, j < n * c → xs[j]? = some (f j)) : ie w t c B w.heap.size n v f := by
 rcases h.2 with ⟨h1, h0⟩ | ⟨g, cap, cur, hv, hb, hg, hnc, hcm, hcs, htake⟩
 ·exact .inl ⟨h0, _, _, h1⟩
 ·refine .inr ⟨g, cap, hv, hb, (Array.getElem?_eq_some_iff.1 hg).1, cur, hg, fun j hj => ?_⟩
  have e := hf j hj
  rw [← htake, List.getElem?_take, if_pos hj] at e
  simpa using e
end
section
open Go.RowKit Go.Sort
end
section
open Go.RowKit
end
section
open Go.RowKit Go.Sort
def qx (w : World) (b o : Nat) (v : D3) : Prop := w.cell? ⟨b, o, none⟩ = some (.int .i64 v.1) ∧ w.cell? ⟨b, o + 1, none⟩ = some (.int .i64 v.2.1) ∧ w.cell? ⟨b, o + 2, none⟩ = some (.int .i64 v.2.2)
def bG (w : World) (a : Option Addr) (L : List D3) (n : Nat) : Prop := n = 0 ∨ ∃ b o, a = some ⟨b, o, none⟩ ∧ b < w.heap.size ∧ ∀ i, i < n → qx w b (o + i * 3) (vA L i)
theorem qx.kept {w w' : World} {b o : Nat} {s : D3} (h : qx w b o s) (hb : b < w.heap.size) (hB : Below w.heap.size w w') : qx w' b o s := by
 obtain ⟨h0, h1, h2⟩ := h
 exact ⟨by rw [hB.cell (p := ⟨b, o, none⟩) hb]; exact h0, by rw [hB.cell (p := ⟨b, o + 1, none⟩) hb]; exact h1, by rw [hB.cell (p := ⟨b, o + 2, none⟩) hb]; exact h2⟩
theorem bG.kept {w w' : World} {a : Option Addr} {L : List D3} {n : Nat} (h : bG w a L n) (hB : Below w.heap.size w w') : bG w' a L n := by
 rcases h with h | ⟨b, o, ha, hb, hc⟩
 ·exact .inl h
 ·exact .inr ⟨b, o, ha, Nat.lt_of_lt_of_le hb hB.size, fun i hi => (hc i hi).kept hb hB⟩
theorem bG.less {w : World} {a : Option Addr} {L : List D3} {n m : Nat} (h : bG w a L n) (hm : m ≤ n) : bG w a L m := by
 rcases h with h | ⟨b, o, ha, hb, hc⟩
 ·exact .inl (by omega)
 ·exact .inr ⟨b, o, ha, hb, fun i hi => hc i (by omega)⟩
theorem uY {w : World} {b : Nat} {x y z : Int} (h : aF w b x y z) : b < w.heap.size := World.block_lt_of_cell? w _ h.1
theorem nF (L : List D3) (n : Nat) (x y z : Int) (a : Option Addr) (c : Nat) (w : World) (hn : n ≤ 1048576) (hS : bG w a L n) :
  Calls Tryz.prog 163 #[.agg #[.int .i64 x, .int .i64 y, .int .i64 z], .slice a n c] w fun e w' => e = .returned (.bool (fE L (x, y, z) n)) ∧ Below w.heap.size w w' := by
 rcases hS with rfl | ⟨b, o, rfl, hb, hc⟩
 ·go_enter Tryz.func163, Tryz.ntmps163
  go_wp2_with fail
  refine wp_loop_rounds 1 ?_
  rw [rounds_succ]
  go_wp2_with fail
  go_ret
  exact ⟨rfl, an _ _⟩
 ·have HC := yz hc
  clear hc
  have V0 := yz (aD w x y z 72)
  have B0 := yz (an w (.cells #[.int .i64 x, .int .i64 y, .int .i64 z] 72))
  go_enter Tryz.func163, Tryz.ntmps163
  go_wp2_with fail
  go_loopw [9] (fun i wr => ∃ k : Nat, k ≤ n ∧ i = .int .i64 k ∧ Hid (jG L (x, y, z) k) ∧ Hid (Below w.heap.size w wr) ∧ Hid (aF wr w.heap.size x y z)) (fun i _ => n - (intOf i).toNat)
  case atStart => exact ⟨0, by omega, rfl, yz (fun j hj => absurd hj (Nat.not_lt_zero _)), B0, V0⟩
  case round =>
   obtain ⟨k, hk, rfl, HF, HB, HV⟩ := hrel
   by_cases hkn : k < n
   ·obtain ⟨⟨s2, s3, s4⟩, hs⟩ : ∃ s, vA L k = s := ⟨_, rfl⟩
    have hst := ((yy HC) k hkn).kept hb (yy HB)
    rw [hs] at hst
    obtain ⟨c0, c1, c2⟩ := hst
    have HS := yz hs
    clear hs
    have V1 := yz (aF.alloc (yy HV) (uY (yy HV)) (.cells #[.int .i64 s2, .int .i64 s3, .int .i64 s4] 72))
    have B1 := yz ((yy HB).alloc (yy HB).size (.cells #[.int .i64 s2, .int .i64 s3, .int .i64 s4] 72))
    obtain ⟨v0, v1, v2⟩ := yy V1
    go_wp2_with fail
    refine (eH x y z s2 s3 s4 _).mono ?_
    rintro e w2 ⟨rfl, hx⟩
    have HV2 := yz ((yy V1).kept (uY (yy V1)) hx)
    have HB2 := yz (ak (yy B1) hx)
    clear hx c0 c1 c2 v0 v1 v2 V1 B1 HB HV
    have HR : Hid (eG (x, y, z) (vA L k) = gU x y z s2 s3 s4) := yz (by rw [yy HS]; rfl)
    cases hq : gU x y z s2 s3 s4
    ·rw [hq] at HR
     go_wp2_with fail
     go_roundw
     case rel => exact ⟨k + 1, by omega, by go_num, yz (pI (yy HF) (yy HR)), HB2, HV2⟩
     case measure => simp [intOf]; omega
    ·rw [hq] at HR
     go_wp2_with fail
     go_ret
     exact ⟨by rw [ry hkn (yy HR)]; rfl, yy HB2⟩
   ·have hkn' : k = n := by omega
    subst hkn'
    go_wp2_with fail
    go_ret
    exact ⟨by rw [tH (yy HF)]; rfl, yy HB⟩
theorem di (L : List D3) (a : Option Addr) (c : Nat) (w : World) (hn : L.length ≤ 1048576) (hcap : L.length ≤ c) (hc9 : c ≤ 9223372036854775807) (hS : bG w a L L.length) :
  Calls Tryz.prog 141 #[.slice a L.length c] w fun e w' => e = .returned (.bool (aQ L)) ∧ Below w.heap.size w w' := by
 obtain ⟨n, hnl⟩ : ∃ n, L.length = n := ⟨_, rfl⟩
 rw [hnl] at hn hcap hS ⊢
 have HL := yz hnl
 clear hnl
 by_cases h12 : 6 < n
 ·have h12' : (6 : Int) < (n : Int) := by omega
  have HO : Hid (aQ L = false) := yz (oW (by rw [yy HL]; exact h12))
  clear hS
  go_enter Tryz.func141, Tryz.ntmps141
  go_wp2
  go_ret
  exact ⟨by rw [yy HO]; rfl, Below.refl _ _⟩
 have h12' : ¬ (6 : Int) < (n : Int) := by omega
 rcases hS with rfl | ⟨b, o, rfl, hb, hc⟩
 ·have HO : Hid (aQ L = true) := yz (me (by rw [yy HL]; omega) (by rw [yy HL]; intro j hj; omega))
  go_enter Tryz.func141, Tryz.ntmps141
  go_wp2_with fail
  refine wp_loop_rounds 1 ?_
  rw [rounds_succ]
  go_wp2_with fail
  go_ret
  exact ⟨by rw [yy HO]; rfl, Below.refl _ _⟩
 have HC := yz hc
 have HS : Hid (bG w (some ⟨b, o, none⟩) L n) := yz (.inr ⟨b, o, rfl, hb, hc⟩)
 clear hc
 go_enter Tryz.func141, Tryz.ntmps141
 go_wp2_with fail
 go_loopw [10] (fun i wr => ∃ k : Nat, k ≤ n ∧ i = .int .i64 k ∧ Hid (oe L k) ∧ Hid (Below w.heap.size w wr)) (fun i _ => n - (intOf i).toNat)
 case atStart => exact ⟨0, by omega, rfl, yz (fun j hj => absurd hj (Nat.not_lt_zero _)), yz (Below.refl _ _)⟩
 case round =>
  obtain ⟨k, hk, rfl, HF, HB⟩ := hrel
  by_cases hkn : k < n
  ·obtain ⟨⟨s2, s3, s4⟩, hs⟩ : ∃ s, vA L k = s := ⟨_, rfl⟩
   have hst := ((yy HC) k hkn).kept hb (yy HB)
   rw [hs] at hst
   obtain ⟨c0, c1, c2⟩ := hst
   have HT := yz hs
   clear hs
   have B1 := yz ((yy HB).alloc (yy HB).size (.cells #[.int .i64 s2, .int .i64 s3, .int .i64 s4] 72))
   have N1 := yz (aD wr s2 s3 s4 72)
   go_wp2_with fail
   clear c0 c1 c2
   have hb1 := yy B1
   have hn1 := yy N1
   generalize hwe : wr.alloc (.cells #[.int .i64 s2, .int .i64 s3, .int .i64 s4] 72) = W1 at hb1 hn1 ⊢
   have HB1 := yz hb1
   clear hwe hb1 B1 N1
   obtain ⟨c0, c1, c2⟩ := hn1
   have r0 := cell_regrown c0
   have r1 := cell_regrown c1
   have r2 := cell_regrown c2
   clear c0 c1 c2
   have HO : Hid (okV L k = (cc s2 s3 s4 && !fE L (s2, s3, s4) k)) := yz (by unfold okV vk; rw [yy HT])
   have cW := yz (fun W => ft s2 s3 s4 W)
   have cA := yz (fun (W : World) (hW : bG W (some ⟨b, o, none⟩) L k) => nF L k s2 s3 s4 (some ⟨b, o, none⟩) c W (by omega) hW)
   have HSk := yz (((yy HS).less (Nat.le_of_lt hkn)).kept (yy HB1))
   have hkc : (k : Int) ≤ (c : Int) := by omega
   cases hwd : cc s2 s3 s4
   ·rw [hwd] at HO cW
    have HO' : Hid (okV L k = false) := HO
    refine wp_region_quiet_below (by kernel_rfl) (by kernel_rfl) ?_
    repeat (go_big_quiet_step (first | (with_reducible exact Calls.regrown_of (yy cW _))))
    refine wpQuiet_nil ?_
    intro _ hw'
    obtain ⟨⟨dq, osq⟩, hw''⟩ := hw'
    subst hw''
    have hx := ak (yy HB1) (below_regrown W1 dq osq)
    generalize grow (redrawn W1 dq) osq = W2 at hx ⊢
    go_wp2_with fail
    go_ret
    exact ⟨by rw [oj (by rw [yy HL]; exact hkn) (yy HO')]; rfl, hx⟩
   ·rw [hwd, Bool.true_and] at HO
    rw [hwd] at cW
    generalize fE L (s2, s3, s4) k = am at *
    refine wp_region_quiet_below (by kernel_rfl) (by kernel_rfl) ?_
    repeat (go_big_quiet_step (first | (with_reducible exact Calls.regrown_of (yy cW _)) | (with_reducible exact Calls.regrown_of (yy cA _ ((yy HSk).kept (below_regrown _ _ _))))))
    refine wpQuiet_nil ?_
    intro _ hw'
    obtain ⟨⟨dq, osq⟩, hw''⟩ := hw'
    subst hw''
    have hx := ak (yy HB1) (below_regrown W1 dq osq)
    generalize grow (redrawn W1 dq) osq = W2 at hx ⊢
    have HB2 := yz hx
    clear hx HB1 HB cW cA HSk r0 r1 r2
    cases am
    ·have HO' : Hid (okV L k = true) := HO
     go_wp2_with fail
     go_roundw
     case rel => exact ⟨k + 1, by omega, by go_num, yz (sF (yy HF) (yy HO')), HB2⟩
     case measure => simp [intOf]; omega
    ·have HO' : Hid (okV L k = false) := HO
     go_wp2_with fail
     go_ret
     exact ⟨by rw [oj (by rw [yy HL]; exact hkn) (yy HO')]; rfl, yy HB2⟩
  ·have hkn' : k = n := by omega
   have HO : Hid (aQ L = true) := yz (me (by rw [yy HL]; omega) (by rw [yy HL, ← hkn']; exact yy HF))
   go_wp2_with fail
   go_ret
   exact ⟨by rw [yy HO]; rfl, yy HB⟩
def mJ (w : World) (b n : Nat) (L : List D3) (k : Nat) : Prop := ∃ cur : Array Value, w.heap[b]? = some (.cells cur 72 (0, 0)) ∧ cur.size = n * 3 ∧
 ∀ j, j < k → cur[j * 3]? = some (.int .i64 (vA L j).1) ∧ cur[j * 3 + 1]? = some (.int .i64 (vA L j).2.1) ∧ cur[j * 3 + 2]? = some (.int .i64 (vA L j).2.2)
theorem mJ.lt {w : World} {b n k : Nat} {L : List D3} (h : mJ w b n L k) : b < w.heap.size := by
 obtain ⟨cur, hc, _⟩ := h
 exact (Array.getElem?_eq_some_iff.1 hc).1
theorem mJ.kept {w w' : World} {b n k : Nat} {L : List D3} (h : mJ w b n L k) (hB : Below w.heap.size w w') : mJ w' b n L k := by
 have hl := h.lt
 obtain ⟨cur, hc, r⟩ := h
 exact ⟨cur, by rw [hB.block b hl]; exact hc, r⟩
theorem mJ.dirs {w : World} {b n k : Nat} {L : List D3} (h : mJ w b n L k) : bG w (some ⟨b, 0, none⟩) L k := by
 have hl := h.lt
 obtain ⟨cur, hc, _, hs⟩ := h
 refine .inr ⟨b, 0, rfl, hl, fun i hi => ?_⟩
 obtain ⟨h0, h1, h2⟩ := hs i hi
 rw [Nat.zero_add]
 exact ⟨by rw [cell_of_row w b _ cur _ _ hc]; exact h0, by rw [cell_of_row w b _ cur _ _ hc]; exact h1, by rw [cell_of_row w b _ cur _ _ hc]; exact h2⟩
theorem mJ.free {w : World} {b n k : Nat} {L : List D3} (h : mJ w b n L k) (i : Nat) : w.frozen? ⟨b, i, none⟩ = false := by
 obtain ⟨cur, hc, _⟩ := h
 exact frozen_of_row w b i cur _ hc
end
section
open Go.RowKit Go.Deep Go.ChangeShapes
end
section
open Go.RowKit
theorem jy (a : ByteArray) (w : World) (ha : a.size ≤ 100000) :
  Calls Tryz.prog 43 #[.string a, .string ByteArray.empty] w fun e w' => e = .returned (.string a) ∧ Below w.heap.size w w' := by
 obtain ⟨M, hM, hmk⟩ := qk a.size (by omega)
 have hinfo : (Tryz.prog.info? 5).map (·.size) = some 1 := by kernel_rfl
 have hcp := Lib.run_copy_row_string (P := Tryz.prog) (w.alloc (.cells M 5)) 22 9 3 5 w.heap.size 0 a.size a.size a M 5 Tryz.underlying22 hinfo (heap_alloc_new w _) (by omega) (by omega)
 rw [fk] at hcp
 obtain ⟨Y1, hY1⟩ : ∃ Y, Y = (M.toList.take 0 ++ Lib.byteCells a.data.toList ++ M.toList.drop (0 + a.size)).toArray := ⟨_, rfl⟩
 rw [← hY1] at hcp
 have hY1l : Y1.toList = Lib.byteCells a.data.toList := by rw [hY1]; simp [← hM]
 have hcp2 : ∀ d dLen dCap W, (Builtin.copy_ #[22, 9] 3 #[.slice d dLen dCap, .string ByteArray.empty]).run Tryz.prog W = .ok (goInt 0) W := fun d dLen dCap W => Lib.run_copy_empty_string W 22 9 3 5 d dLen dCap ByteArray.empty Tryz.underlying22 (by rw [hinfo]; rfl) rfl
 have hcv := lR w 5 Y1 a hY1l a.size
 clear hY1 hY1l hinfo hM
 go_enter Tryz.func43, Tryz.ntmps43
 go_wp2
 go_ret
 exact ⟨rfl, (Below.refl _ _).alloc (Nat.le_refl _) _⟩
theorem eQ (a b : ByteArray) (w : World) (ha : a.size ≤ 100000) (hb : b.size ≤ 100000) :
  Calls Tryz.prog 43 #[.string a, .string b] w fun e w' => e = .returned (.string (a ++ b)) ∧ Below w.heap.size w w' := by
 obtain ⟨M, hM, hmk0⟩ := qk (a.size + b.size) (by omega)
 have hmk : ∀ W : World, (Instr.makeSlice 22 (.int .i64 ((a.size : Int) + (b.size : Int))) (.int .i64 ((a.size : Int) + (b.size : Int)))).run Tryz.prog W = .ok (.slice (some ⟨W.heap.size, 0, none⟩) (a.size + b.size) (a.size + b.size)) (W.alloc (.cells M 5)) := fun W => by have := hmk0 W; simpa using this
 clear hmk0
 have hinfo : (Tryz.prog.info? 5).map (·.size) = some 1 := by kernel_rfl
 have hcp := Lib.run_copy_row_string (P := Tryz.prog) (w.alloc (.cells M 5)) 22 9 3 5 w.heap.size 0 (a.size + b.size) (a.size + b.size) a M 5 Tryz.underlying22 hinfo (heap_alloc_new w _) (by omega) (by omega)
 rw [fk] at hcp
 obtain ⟨Y1, hY1⟩ : ∃ Y, Y = (M.toList.take 0 ++ Lib.byteCells a.data.toList ++ M.toList.drop (0 + a.size)).toArray := ⟨_, rfl⟩
 rw [← hY1] at hcp
 have hla : (Lib.byteCells a.data.toList).length = a.size := by rw [Lib.byteCells_length, ← Lib.size_eq]
 have hlb : (Lib.byteCells b.data.toList).length = b.size := by rw [Lib.byteCells_length, ← Lib.size_eq]
 have hY1l : Y1.toList = Lib.byteCells a.data.toList ++ M.toList.drop a.size := by rw [hY1]; simp
 have hY1s : Y1.size = a.size + b.size := by rw [← Array.length_toList, hY1l]; simp [hla, hM]
 have hab : (a ++ b).data.toList = a.data.toList ++ b.data.toList := by simp
 have hs : (a ++ b).size = a.size + b.size := by simp
 clear hY1
 by_cases h0 : b = ByteArray.empty
 ·subst h0
  refine (jy a w ha).mono ?_
  rintro e w' ⟨rfl, hw⟩
  exact ⟨by rw [nh], hw⟩
 ·have hpos : 0 < b.size := by
   rcases Nat.eq_zero_or_pos b.size with h | h
   ·exact absurd (ByteArray.ext (Array.eq_empty_of_size_eq_zero h)) h0
   ·exact h
  have hcp2 := Lib.run_copy_row_string (P := Tryz.prog) (w.alloc (.cells Y1 5)) 22 9 3 5 w.heap.size a.size b.size b.size b Y1 5 Tryz.underlying22 hinfo (heap_alloc_new w _) (by omega) (by omega)
  rw [fk] at hcp2
  obtain ⟨Y2, hY2⟩ : ∃ Y, Y = (Y1.toList.take a.size ++ Lib.byteCells b.data.toList ++ Y1.toList.drop (a.size + b.size)).toArray := ⟨_, rfl⟩
  rw [← hY2] at hcp2
  have hY2l : Y2.toList = Lib.byteCells (a ++ b).data.toList := by
   rw [hY2, hab, hY1l]
   rw [List.take_left' hla, List.drop_of_length_le (by simp [hla, hM])]
   simp [Lib.byteCells]
  have hcv := lR w 5 Y2 (a ++ b) hY2l (a.size + b.size)
  rw [hs] at hcv
  clear hY2 hY2l hab hs hY1l hla hlb
  go_enter Tryz.func43, Tryz.ntmps43
  go_wp2
  go_ret
  exact ⟨rfl, (Below.refl _ _).alloc (Nat.le_refl _) _⟩
end
section
open Go.RowKit
def Row (w : World) (a : Option Addr) (len : Nat) (B : Nat) : Prop :=
 len = 0 ∨ ∃ bx ox, a = some ⟨bx, ox, none⟩ ∧ bx < B ∧ ∀ i, i < len → ∃ z : Int, w.cell? ⟨bx, ox + i, none⟩ = some (.int .u8 z) ∧ 0 ≤ z ∧ z ≤ 255
theorem Row.kept {w w' : World} {a : Option Addr} {len B : Nat} (h : Row w a len B) (hk : ∀ k, k < B → w'.heap[k]? = w.heap[k]?) : Row w' a len B := by
 rcases h with h | ⟨bx, ox, ha, hb, hc⟩
 ·exact .inl h
 ·refine .inr ⟨bx, ox, ha, hb, fun i hi => ?_⟩
  obtain ⟨z, hz, h0, h1⟩ := hc i hi
  exact ⟨z, by rw [World.cell?_of_block (w := w) (hk bx hb)]; exact hz, h0, h1⟩
def nV (b : Nat) (w : World) : Prop := ∃ (a : Option Addr) (len cap : Nat) (at_ mix size : Int),
 w.cell? ⟨b, 0, none⟩ = some (.slice a len cap) ∧ w.cell? ⟨b, 1, none⟩ = some (.int .i64 at_) ∧ w.cell? ⟨b, 2, none⟩ = some (.int .u64 mix) ∧ w.cell? ⟨b, 3, none⟩ = some (.int .i64 size) ∧
 w.frozen? ⟨b, 0, none⟩ = false ∧ w.frozen? ⟨b, 1, none⟩ = false ∧ w.frozen? ⟨b, 2, none⟩ = false ∧ w.frozen? ⟨b, 3, none⟩ = false ∧
 0 ≤ at_ ∧ at_ ≤ len ∧ len ≤ 1048576 ∧ 0 ≤ mix ∧ mix ≤ 18446744073709551615 ∧ 0 ≤ size ∧ size ≤ 12 ∧ Row w a len b
def drawn (v m most : Int) : Int := (v + m / 1048576) % most
theorem nV.kept {b : Nat} {w w' : World} {row : Option Nat} (h : nV b w) (hg : w.grownBy w' row) (hr : ∀ k, row = some k → b < k) : nV b w' := by
 obtain ⟨a, len, cap, at_, mix, size, c0, c1, c2, c3, f0, f1, f2, f3, a0, a1, hl, m0, m1, s0, s1, hR⟩ := h
 have hlt : b < w.heap.size := World.block_lt_of_cell? w ⟨b, 0, none⟩ c0
 have hk : ∀ k, k ≤ b → w'.heap[k]? = w.heap[k]? := fun k hk => hg.block k (by omega) (fun e => by have := hr k e.symm; omega)
 have hc : ∀ o, w'.cell? ⟨b, o, none⟩ = w.cell? ⟨b, o, none⟩ := fun o => World.cell?_of_block (hk b (Nat.le_refl _))
 have hf : ∀ o, w'.frozen? ⟨b, o, none⟩ = w.frozen? ⟨b, o, none⟩ := fun o => World.frozen?_of_block (hk b (Nat.le_refl _))
 exact ⟨a, len, cap, at_, mix, size, by rw [hc]; exact c0, by rw [hc]; exact c1, by rw [hc]; exact c2, by rw [hc]; exact c3, by rw [hf]; exact f0, by rw [hf]; exact f1, by rw [hf]; exact f2, by rw [hf]; exact f3, a0, a1, hl, m0, m1, s0, s1, hR.kept (fun k h => hk k (by omega))⟩
theorem nV.lt {b : Nat} {w : World} (h : nV b w) : b < w.heap.size := by
 obtain ⟨a, len, cap, at_, mix, size, c0, _⟩ := h
 exact World.block_lt_of_cell? w ⟨b, 0, none⟩ c0
theorem sf (a : Option Addr) (len cap : Nat) (i : Nat) (most : Int) (w : World) (hl : len ≤ 1048576) (hi : i ≤ 1000) (hm : most ≤ 9223372036854775807) (hR : Row w a len w.heap.size) :
  Calls Tryz.prog 10 #[.slice a len cap, .int .i64 (i : Int), .int .i64 most] w fun e w' => ∃ k : Int, e = .returned (.int .i64 k) ∧ 0 ≤ k ∧ (1 < most → k < most) ∧ (most ≤ 1 → k = 0) ∧ w' = w := by
 by_cases h1 : most ≤ 1
 ·clear hR
  go_enter Tryz.func10, Tryz.ntmps10
  go_wp2
  go_ret
  exact ⟨0, rfl, Int.le_refl _, by omega, fun _ => rfl, rfl⟩
 ·have hm1 : 1 < most := by omega
  rcases hR with rfl | ⟨bx, ox, rfl, hb, hz⟩
  ·go_enter Tryz.func10, Tryz.ntmps10
   go_wp2
   go_ret
   exact ⟨0, rfl, Int.le_refl _, by omega, fun _ => rfl, rfl⟩
  ·by_cases h0 : len = 0
   ·subst h0
    clear hz
    go_enter Tryz.func10, Tryz.ntmps10
    go_wp2
    go_ret
    exact ⟨0, rfl, Int.le_refl _, by omega, fun _ => rfl, rfl⟩
   ·obtain ⟨z, cz, z0, z1⟩ := hz (i % len) (Nat.mod_lt _ (by omega))
    have hlz : ((len : Int) == 0) = false := by simp; omega
    have hlp : (0 : Int) < (len : Int) := by omega
    obtain ⟨j, hj⟩ : ∃ j : Nat, (i : Int) % (len : Int) = (j : Int) := ⟨i % len, by simp⟩
    have hj2 : i % len = j := by omega
    rw [hj2] at cz
    have hjl : (j : Int) < (len : Int) := by have := Nat.mod_lt i (show 0 < len by omega); omega
    clear hz h0 hj2
    go_enter Tryz.func10, Tryz.ntmps10
    go_wp2
    go_ret
    have e0 : 0 ≤ z % most := Int.emod_nonneg _ (by omega)
    have e1 : z % most < most := Int.emod_lt_of_pos _ (by omega)
    exact ⟨z % most, rfl, e0, by first | exact e1 | exact fun _ => e1, by intro h; omega, rfl⟩
end
section
open Go.RowKit Go.Deep Go.ChangeShapes
theorem ny : "*" ++ "errors.errorString" = "*errors.errorString" := by decide
theorem rowE (u : TypeId) (h : Tryz.prog.typeName? 3 u = some "*errors.errorString") : u = 267 :=
 typeName_ptr_named (nm := "errors.errorString") (by rw [ny]; kernel_rfl) (by kernel_rfl) (by decide) u (by rw [ny]; exact h)
theorem hH : Tryz.prog.globalNamed "loop.example/g00577/impl.errNoSky" = some 1 := by kernel_rfl
theorem pZ : (Tryz.prog.globals[1]?).map (·.type) = some 162 := by kernel_rfl
theorem gu {W : World} {p : Addr} (hv : W.var? Tryz.prog "loop.example/g00577/impl.errNoSky" = some #[.iface 267 (.pointer (some p))]) : aW p W := by
 unfold aW
 rw [World.var?_cell hH hv 0]
 rfl
theorem oL {H : Type} (enc : TypeId × Value → H) {W : World} {p : Addr} (hv : W.var? Tryz.prog "loop.example/g00577/impl.errNoSky" = some #[.iface 267 (.pointer (some p))]) (sp : Nat → Bool) :
  DataW.TrodVars enc Tryz.prog W sp ["loop.example/g00577/impl.errNoSky"] [tok enc (.iface 267 (.pointer (some p)))] [.cell 1 0] :=
 vars_read1 enc hH pZ Tryz.underlying162 hv trivial sp
theorem bZ {P : Program} {x : String × DataW Unit} {l : List (String × DataW Unit)} {w : World} (h : laidMet P (x :: l) w) : laidMet P l w := by
 obtain ⟨ps, ⟨g, t, cs, f, p, q, hg, ht, hv, hd, hr, e⟩, hn, hrows⟩ := h
 subst e
 exact ⟨q, hr, (List.nodup_append.1 hn).2.1, fun b off hb => hrows b off (List.mem_append_right _ hb)⟩
end
end Go.Proofs.YtdchjcadhlkpfaaGreatDoor
