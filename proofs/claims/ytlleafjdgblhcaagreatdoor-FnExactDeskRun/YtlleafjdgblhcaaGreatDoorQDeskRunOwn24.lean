/- Several texts in one: TfM, TurnQ, DsB, CShelf. -/
import Derived.Lib.QuietBelow
import Derived.Deep.RegionHeld
import Derived.Deep.DeepCutAuto
import Derived.Laws.AppendOwn
import Derived.Shelf.Strings.Builder1
import Derived.Shelf.Strings.Builder2
import Derived.Shelf.Strings.OnBuilder
import Derived.Shelf.Strconv.Itoa0
import Derived.Shelf.Strconv.Itoa1
import Derived.Shelf.LaysM
import Derived.Shelf.Strconv.Itoa2
import Derived.Shelf.Strconv.Itoa3
import Derived.Shelf.Strconv.Itoa4
import Derived.Shelf.Strings.Search1
import Derived.Shelf.Strings.Search2
import Derived.Shelf.Strings.Search3
import Derived.Shelf.Strings.Cut
import Derived.Shelf.Strings.Count
import Derived.Shelf.Strings.Shaped
import Derived.Shelf.Strings.Split
import Derived.Shelf.Strings.SplitShaped
import Derived.Shelf.Unicode.Decode
import Derived.Shelf.Strings.RuneCount
import Derived.Shelf.Strings.Explode
import Derived.Shelf.Unicode.DecodeSlow
import Derived.Test.YtlleafjdgblhcaaGreatDoorChecked
import Derived.Test.YtlleafjdgblhcaaGreatDoorQDeskRunOwn10
import Derived.Test.YtlleafjdgblhcaaGreatDoorQDeskRunOwn23
import Derived.Test.YtlleafjdgblhcaaGreatDoorQDeskRunOwn3
namespace Go.Proofs.YtlleafjdgblhcaaGreatDoor
set_option linter.unusedVariables false
set_option linter.unusedSimpArgs false
set_option maxRecDepth 100000
set_option maxHeartbeats 8000000
section
open Go.RowKit
def dz (t : T4) (s : Sg) : Bool := bN s.1 (apD t.1 t.2.1 t.2.2.1 t.2.2.2 s.2.2)
def di (A : List Sg) (t : T4) : Bool := A.all (dz t)
theorem Cz {A : List Sg} {t : T4} (h : ∀ i, i < A.length → dz t (sgA A i) = true) : di A t = true := by
 unfold di
 rw [← jH, List.all_eq_true]
 exact fun i hi => h i (List.mem_range.1 hi)
theorem Dz {A : List Sg} {t : T4} {i : Nat} (hi : i < A.length) (h : dz t (sgA A i) = false) : di A t = false := by
 unfold di
 rw [← jH, List.all_eq_false]
 exact ⟨i, List.mem_range.2 hi, by rw [h]; simp⟩
def eU (A : List Sg) (T : List T4) : T4 × Int := match T.find? (di A) with | some t => (t, 0) | none => ((0, 0, 0, 0), 6)
theorem xW {T : List T4} {k : Nat} (hk : k < T.length) : T[k]? = some (tA T k) := by unfold tA; rw [List.getD_eq_getElem?_getD, List.getElem?_eq_getElem hk]; rfl
theorem vg {A : List Sg} {T : List T4} {k : Nat} (hk : k < T.length) (h : ∀ j, j < k → di A (tA T j) = false) (h1 : di A (tA T k) = true) : eU A T = (tA T k, 0) := by
 unfold eU
 have : T.find? (di A) = some (tA T k) := by
  rw [List.find?_eq_some_iff_getElem]
  refine ⟨h1, k, hk, ?_, fun j hj => ?_⟩
  ·have := xW hk
   rw [List.getElem?_eq_getElem hk] at this
   exact Option.some.inj this
  ·have e := xW (T := T) (k := j) (by omega)
   rw [List.getElem?_eq_getElem (by omega)] at e
   rw [Option.some.inj e, h j hj]
   rfl
 rw [this]
theorem oX {A : List Sg} {T : List T4} (h : ∀ j, j < T.length → di A (tA T j) = false) : eU A T = ((0, 0, 0, 0), 6) := by
 unfold eU
 have : T.find? (di A) = none := by
  rw [List.find?_eq_none]
  intro x hx
  obtain ⟨j, hj, rfl⟩ := List.getElem_of_mem hx
  have e := xW (T := T) (k := j) hj
  rw [List.getElem?_eq_getElem hj] at e
  rw [Option.some.inj e, h j hj]
  simp
 rw [this]
def iX (L : List St) (S : List D3) (ids : List Int) : T4 × Int :=
 if 400 < L.length ∨ 400 < S.length ∨ 400 < ids.length then ((0, 0, 0, 0), 2)
 else if bE L S ids = true then (if (au L S ids ids.length).length < 2 then ((0, 0, 0, 0), 10) else eU (au L S ids ids.length) (ay 625))
 else ((0, 0, 0, 0), 1)
theorem Cc {L : List St} {S : List D3} {ids : List Int} (h : 400 < L.length ∨ 400 < S.length ∨ 400 < ids.length) : iX L S ids = ((0, 0, 0, 0), 2) := by unfold iX; rw [if_pos h]
theorem AI {L : List St} {S : List D3} {ids : List Int} (h : ¬ (400 < L.length ∨ 400 < S.length ∨ 400 < ids.length)) (h1 : bE L S ids = false) : iX L S ids = ((0, 0, 0, 0), 1) := by unfold iX; rw [if_neg h, h1]; rfl
theorem Dh {L : List St} {S : List D3} {ids : List Int} (h : ¬ (400 < L.length ∨ 400 < S.length ∨ 400 < ids.length)) (h1 : bE L S ids = true) (h2 : (au L S ids ids.length).length < 2) : iX L S ids = ((0, 0, 0, 0), 10) := by unfold iX; rw [if_neg h, if_pos h1, if_pos h2]
theorem zv {L : List St} {S : List D3} {ids : List Int} (h : ¬ (400 < L.length ∨ 400 < S.length ∨ 400 < ids.length)) (h1 : bE L S ids = true) (h2 : ¬ (au L S ids ids.length).length < 2) : iX L S ids = eU (au L S ids ids.length) (ay 625) := by unfold iX; rw [if_neg h, if_pos h1, if_neg h2]
theorem ft {L : List St} {S : List D3} {ids : List Int} (h : bE L S ids = true) : aV L = true ∧ aU S = true ∧ ids.length = S.length ∧ eo (au L S ids ids.length) (au L S ids ids.length).length = true := by
 unfold bE at h
 simp only [Bool.and_eq_true, decide_eq_true_eq] at h
 exact ⟨h.1.1.1, h.1.1.2, h.1.2, h.2⟩
theorem zu {L : List St} {S : List D3} {ids : List Int} {n i : Nat} (hi : i < (au L S ids n).length) : ∃ j, j < n ∧ ids.getD j 0 ≠ 0 ∧ sgA (au L S ids n) i = bL L S ids j := by
 have hm : sgA (au L S ids n) i ∈ au L S ids n := by
  unfold sgA
  rw [List.getD_eq_getElem?_getD, List.getElem?_eq_getElem hi]
  exact List.getElem_mem hi
 generalize sgA (au L S ids n) i = s at hm ⊢
 unfold au at hm
 rw [List.mem_map] at hm
 obtain ⟨j, hj, rfl⟩ := hm
 rw [List.mem_filter] at hj
 exact ⟨j, List.mem_range.1 hj.1, of_decide_eq_true hj.2, rfl⟩
theorem vG {L : List St} {S : List D3} {ids : List Int} (h : bE L S ids = true) {i : Nat} (hi : i < (au L S ids ids.length).length) : aL (sgA (au L S ids ids.length) i).2.2.1 (sgA (au L S ids ids.length) i).2.2.2.1 (sgA (au L S ids ids.length) i).2.2.2.2 = true := by
 obtain ⟨h1, h2, h3, h4⟩ := ft h
 unfold eo at h4
 have h5 := List.all_eq_true.1 h4 i (List.mem_range.2 hi)
 rw [Bool.and_eq_true] at h5
 obtain ⟨j, hj, h0, e⟩ := zu hi
 rw [e] at h5 ⊢
 exact vC h1 (by have h6 := h5.1; rw [Bool.not_eq_true'] at h6; exact h6)
theorem xy {L : List St} {S : List D3} {ids : List Int} (h : bE L S ids = true) {j : Nat} (hj : j < ids.length) (h0 : ids.getD j 0 ≠ 0) : aL (atV L L.length (ids.getD j 0)).1 (atV L L.length (ids.getD j 0)).2.1 (atV L L.length (ids.getD j 0)).2.2 = true ∧ iS (vA S j) = true := by
 obtain ⟨h1, h2, h3, h4⟩ := ft h
 rw [← qG] at h4
 unfold gz at h4
 have h5 := List.all_eq_true.1 h4 j (List.mem_range.2 hj)
 rw [decide_eq_false h0, Bool.false_or, Bool.and_eq_true] at h5
 exact ⟨vC h1 (by simpa using h5.1), lW ((bK h2).2 j (by omega))⟩
def gJ (L : List St) (S : List D3) (ids : List Int) (t : T4) (n : Nat) : Bool := (List.range n).all fun j => decide (ids.getD j 0 = 0) || dz t (bL L S ids j)
theorem zy (L : List St) (S : List D3) (ids : List Int) (t : T4) (n : Nat) : gJ L S ids t n = di (au L S ids n) t := (lH L S ids (dz t) n).symm
theorem xz {L : List St} {S : List D3} {ids : List Int} {t : T4} {n j : Nat} (hj : j < n) (h : (decide (ids.getD j 0 = 0) || dz t (bL L S ids j)) = false) : gJ L S ids t n = false := by
 unfold gJ
 rw [List.all_eq_false]
 exact ⟨j, List.mem_range.2 hj, by rw [h]; simp⟩
theorem ww {L : List St} {S : List D3} {ids : List Int} {t : T4} {n : Nat} (h : ∀ j, j < n → (decide (ids.getD j 0 = 0) || dz t (bL L S ids j)) = true) : gJ L S ids t n = true := by
 unfold gJ
 rw [List.all_eq_true]
 exact fun j hj => h j (List.mem_range.1 hj)
theorem sQ (L : List St) (S : List D3) (ids : List Int) (k : Nat) : (au L S ids (k + 1)).length = (au L S ids k).length + if ids.getD k 0 ≠ 0 then 1 else 0 := by
 rw [fy, List.length_append]
 split <;> rfl
theorem jP {m k : Nat} (hk : k < (ay m).length) : aA (tA (ay m) k).1 (tA (ay m) k).2.1 (tA (ay m) k).2.2.1 (tA (ay m) k).2.2.2 = true := by
 have hm : tA (ay m) k ∈ ay m := by unfold tA; rw [List.getD_eq_getElem?_getD, List.getElem?_eq_getElem hk]; exact List.getElem_mem hk
 generalize tA (ay m) k = t at hm ⊢
 unfold ay at hm
 exact (List.mem_filter.1 hm).2
theorem pW : 0 < (ay 625).length := by
 have h : (tOf 624).1 = 2 := by decide +kernel
 have hg : nN (tOf 563) = true := by decide +kernel
 have hm : tOf 563 ∈ ay 625 := by
  unfold ay
  rw [List.mem_filter]
  exact ⟨List.mem_map.2 ⟨563, List.mem_range.2 (by omega), rfl⟩, hg⟩
 exact List.length_pos_of_mem hm
end
section
open Go.RowKit Go.Sort
def BL (w : World) (g : Nat) (x y z u : Value) : Prop := w.cell? ⟨g, 0, none⟩ = some x ∧ w.cell? ⟨g, 1, none⟩ = some y ∧ w.cell? ⟨g, 2, none⟩ = some z ∧ w.cell? ⟨g, 3, none⟩ = some u
theorem DH {w1 wx : World} {g : Nat} {x y z u : Value} (h : BL w1 g x y z u) (hB : RowKit.Below w1.heap.size w1 wx) : (wx.cell? ⟨g, 0, none⟩ = some x ∧ wx.cell? ⟨g, 1, none⟩ = some y ∧ wx.cell? ⟨g, 2, none⟩ = some z ∧ wx.cell? ⟨g, 3, none⟩ = some u) ∧ RowKit.Below w1.heap.size w1 wx := by
 obtain ⟨h0, h1, h2, h3⟩ := h
 have hb : g < w1.heap.size := World.block_lt_of_cell? w1 _ h0
 exact ⟨⟨by rw [hB.cell (p := ⟨g, 0, none⟩) hb]; exact h0, by rw [hB.cell (p := ⟨g, 1, none⟩) hb]; exact h1, by rw [hB.cell (p := ⟨g, 2, none⟩) hb]; exact h2, by rw [hB.cell (p := ⟨g, 3, none⟩) hb]; exact h3⟩, hB⟩
theorem sP (s : ByteArray) (w : World) (hs : s.size ≤ 9223372036854775807) :
  Calls Tryz.prog 36 #[.string s] w fun e w' => e = .returned (.agg #[.int .i64 (dL s (aE s).a), .int .i64 (dL s (aE s).b), .int .i64 (dL s (aE s).c), .int .i64 (dL s (aE s).d), .int .i64 (dR s)]) ∧ RowKit.Below w.heap.size w w' := by
 by_cases h8 : 8000 < s.size
 ·have HR := yz (rI h8)
  go_enter Tryz.func36, Tryz.ntmps36
  go_wp2_with fail
  exact bodyPost_ret (v := .agg #[.int .i64 0, .int .i64 0, .int .i64 0, .int .i64 0, .int .i64 2]) (by simp [results, Tryz.results36, go_sem]) rfl ⟨by rw [yy HR], an _ _⟩
 ·have h8' : s.size ≤ 8000 := by omega
  have h8i : ¬ (8000 : Int) < (s.size : Int) := by omega
  have HBad := yz (fun h => vQ h8' h)
  have HOk := yz (fun h => yp h8' h)
  have HL := yz (fun W => sX s W h8')
  have HSL := yz (fun h => Cs (s := s) h)
  have HSY : Hid (∀ x y z u, bM ([], []) s.data.toList = ([x, y, z], u) → dc (cj x) (cj y) (cj z) (cj u) = s → fW s = true ∧ (aE s).a = cj x ∧ (aE s).b = cj y ∧ (aE s).c = cj z ∧ (aE s).d = cj u) := yz (fun x y z u h1 h2 => BD h1 h2)
  have HSN : Hid (∀ x y z u, bM ([], []) s.data.toList = ([x, y, z], u) → dc (cj x) (cj y) (cj z) (cj u) ≠ s → fW s = false) := yz (fun x y z u h1 h2 => CR h1 h2)
  clear h8 h8'
  obtain ⟨p, hp⟩ : ∃ p, bM ([], []) s.data.toList = p := ⟨_, rfl⟩
  rw [hp] at HL HSL HSY HSN
  clear hp
  go_enter Tryz.func36, Tryz.ntmps36
  go_wp2_with fail
  refine (yy HL _).mono ?_
  rintro e w1 ⟨v, rfl, hpc, hx⟩
  have vr := (ec w 0 0 0 0 0 94).kept hx
  have fr := (fs w 0 0 0 0 0 94).kept (by simp) hx
  have hB : RowKit.Below w.heap.size w w1 := ak (an _ _) hx
  clear hx HL
  obtain ⟨acc, cur⟩ := p
  obtain ⟨g, cap, rfl, hgl, hcs⟩ := hpc
  by_cases hl : acc.length = 3
  ·match acc, hl with
   | [x, y, z], _ =>
    have q0 : w1.cell? ⟨g, 0, none⟩ = some (ij x) := hcs 0 x rfl
    have q1 : w1.cell? ⟨g, 1, none⟩ = some (ij y) := hcs 1 y rfl
    have q2 : w1.cell? ⟨g, 2, none⟩ = some (ij z) := hcs 2 z rfl
    have q3 : w1.cell? ⟨g, 3, none⟩ = some (ij cur) := hcs 3 cur rfl
    clear hcs
    obtain ⟨a, ha⟩ : ∃ v, cj x = v := ⟨_, rfl⟩
    obtain ⟨b, hb⟩ : ∃ v, cj y = v := ⟨_, rfl⟩
    obtain ⟨c, hc⟩ : ∃ v, cj z = v := ⟨_, rfl⟩
    obtain ⟨d, hd⟩ : ∃ v, cj cur = v := ⟨_, rfl⟩
    have ca : Hid (∀ W : World, Calls Tryz.prog 59 #[ij x] W fun e w' => e = .returned (.int .i64 a) ∧ w' = W) := yz (fun W => by rw [← ha]; exact iF x W)
    have cb : Hid (∀ W : World, Calls Tryz.prog 59 #[ij y] W fun e w' => e = .returned (.int .i64 b) ∧ w' = W) := yz (fun W => by rw [← hb]; exact iF y W)
    have cc : Hid (∀ W : World, Calls Tryz.prog 59 #[ij z] W fun e w' => e = .returned (.int .i64 c) ∧ w' = W) := yz (fun W => by rw [← hc]; exact iF z W)
    have cd : Hid (∀ W : World, Calls Tryz.prog 59 #[ij cur] W fun e w' => e = .returned (.int .i64 d) ∧ w' = W) := yz (fun W => by rw [← hd]; exact iF cur W)
    have HY : Hid (dc a b c d = s → fW s = true ∧ (aE s).a = a ∧ (aE s).b = b ∧ (aE s).c = c ∧ (aE s).d = d) := yz (fun h => by have := yy HSY x y z cur rfl; rw [ha, hb, hc, hd] at this; exact this h)
    have HN : Hid (dc a b c d ≠ s → fW s = false) := yz (fun h => by have := yy HSN x y z cur rfl; rw [ha, hb, hc, hd] at this; exact this h)
    have Vr := yz vr
    have Fr := yz fr
    have HB := yz hB
    clear ha hb hc hd HSY HSN HSL vr fr hB hs
    unfold ij at ca q0
    generalize (⟨x.toArray⟩ : ByteArray) = sx at ca q0
    unfold ij at cb q1
    generalize (⟨y.toArray⟩ : ByteArray) = sy at cb q1
    unfold ij at cc q2
    generalize (⟨z.toArray⟩ : ByteArray) = sz at cc q2
    unfold ij at cd q3
    generalize (⟨cur.toArray⟩ : ByteArray) = sc at cd q3
    go_wp2_with fail
    go_cut [4] (fun u wx => ∃ k, u = .pointer (some ⟨k, 0, none⟩) ∧ aJ wx k a b c d ∧ RowKit.Below w1.heap.size w1 wx)
    case first =>
     clear Vr Fr HB HY HN HBad HOk
     have HQ : Hid (BL w1 g (.string sx) (.string sy) (.string sz) (.string sc)) := yz ⟨q0, q1, q2, q3⟩
     clear q0 q1 q2 q3
     go_region_held (fun w' => (w'.cell? ⟨g, 0, none⟩ = some (.string sx) ∧ w'.cell? ⟨g, 1, none⟩ = some (.string sy) ∧ w'.cell? ⟨g, 2, none⟩ = some (.string sz) ∧ w'.cell? ⟨g, 3, none⟩ = some (.string sc)) ∧ RowKit.Below w1.heap.size w1 w') (first | (with_reducible assumption) | (with_reducible exact DH (yy HQ) (RowKit.Below.refl _ _).drew) | (with_reducible exact DH (yy HQ) (an _ _).drew)) ((go_at_call 59; (first | (with_reducible refine (yy ca _).mono ?_) | (with_reducible refine (yy cb _).mono ?_) | (with_reducible refine (yy cc _).mono ?_) | (with_reducible refine (yy cd _).mono ?_)); rintro e wz ⟨rfl, rfl⟩))
     all_goals (go_wp2_with fail; go_meet)
     all_goals exact ⟨_, rfl, aH w1 a b c d _, (an _ _).drew⟩
    case rest =>
     obtain ⟨k, rfl, vt, hx⟩ := hcut
     have vr := (yy Vr).kept hx
     have fr := (yy Fr).kept (yy Vr).lt hx
     have hB := ak (yy HB) hx
     clear Vr Fr HB hx q0 q1 q2 q3 ca cb cc cd
     have vt' := vt
     obtain ⟨ct0, ct1, ct2, ct3⟩ := vt
     go_wp2_with fail
     refine (mG a b c d _).mono ?_
     rintro e w3 ⟨rfl, hx⟩
     have hlt := vr.lt
     replace vr := vr.kept hx
     replace fr := fr.kept hlt hx
     have vt := vt'.kept vt'.lt hx
     replace hB := ak hB hx
     clear hx hlt ct0 ct1 ct2 ct3 vt'
     obtain ⟨cr0, cr1, cr2, cr3, cr4⟩ := vr
     obtain ⟨fr0, fr1, fr2, fr3, fr4⟩ := fr
     obtain ⟨ct0, ct1, ct2, ct3⟩ := vt
     by_cases htx : dc a b c d = s
     ·have hy := yy HY htx
      have HF := yz (yy HOk hy.1)
      rw [hy.2.1, hy.2.2.1, hy.2.2.2.1, hy.2.2.2.2] at HF
      have HE := yz hy.2
      have hne := yo htx
      clear HBad HOk HY HN htx hy
      go_wp2_with fail
      exact bodyPost_ret (v := .agg #[.int .i64 a, .int .i64 b, .int .i64 c, .int .i64 d, .int .i64 0]) (by simp [results, Tryz.results36, go_sem, cr0, cr1, cr2, cr3, cr4]) rfl ⟨by rw [(yy HE).1, (yy HE).2.1, (yy HE).2.2.1, (yy HE).2.2.2, yy HF], aW hB (Nat.le_refl _) _ _ _ _ _⟩
     ·have HF := yz (yy HBad (yy HN htx))
      have hne := yE htx
      clear HBad HOk HY HN htx
      go_wp2_with fail
      exact bodyPost_ret (v := .agg #[.int .i64 0, .int .i64 0, .int .i64 0, .int .i64 0, .int .i64 3]) (by simp [results, Tryz.results36, go_sem, cr0, cr1, cr2, cr3, cr4]) rfl ⟨by rw [yy HF], aW hB (Nat.le_refl _) _ _ _ _ _⟩
  ·have HF := yz (yy HBad (yy HSL hl))
   have hln : (((acc ++ [cur]).length : Int) != 4) = true := by simp; omega
   obtain ⟨cr0, cr1, cr2, cr3, cr4⟩ := vr
   obtain ⟨fr0, fr1, fr2, fr3, fr4⟩ := fr
   generalize (acc ++ [cur]).length = n at hln ⊢
   clear HBad HOk HSL HSY HSN hcs hl
   go_wp2_with fail
   exact bodyPost_ret (v := .agg #[.int .i64 0, .int .i64 0, .int .i64 0, .int .i64 0, .int .i64 3]) (by simp [results, Tryz.results36, go_sem, cr0, cr1, cr2, cr3, cr4]) rfl ⟨by rw [yy HF], aW hB (Nat.le_refl _) _ _ _ _ _⟩
end
section
open Go.RowKit
theorem mD {α : Type} {a b : List α} {x y : α} (h : a ++ [x] = b ++ [y]) : a = b ∧ x = y := by
 have := List.append_inj' h rfl
 exact ⟨this.1, by simpa using this.2⟩
theorem BT (c : UInt8) (l : List UInt8) : ∃ D p, pcs c l = D ++ [p] := by
 have h := jD c l
 exact ⟨(pcs c l).dropLast, (pcs c l).getLast h, (List.dropLast_concat_getLast h).symm⟩
theorem vq {c x : UInt8} : ∀ {l : List UInt8} {D : List (List UInt8)} {p : List UInt8}, pcs c l = D ++ [p] → pcs c (l ++ [x]) = if x = c then D ++ [p, []] else D ++ [p ++ [x]]
 | [], D, p, h => by
  have h0 : ([] : List (List UInt8)) ++ [[]] = D ++ [p] := h
  obtain ⟨rfl, rfl⟩ := mD h0
  show pcs c [x] = _
  rw [pcs]
  split <;> rfl
 | y :: ys, D, p, h => by
  obtain ⟨D', p', e⟩ := BT c ys
  have ih := vq (x := x) e
  show pcs c (y :: (ys ++ [x])) = _
  rw [pcs, e] at h
  rw [pcs, ih]
  by_cases hy : y = c
  ·rw [if_pos hy] at h ⊢
   have h1 : ([] :: D') ++ [p'] = D ++ [p] := h
   obtain ⟨rfl, rfl⟩ := mD h1
   split <;> rfl
  ·rw [if_neg hy] at h ⊢
   cases D' with
   | nil =>
    have h1 : ([] : List (List UInt8)) ++ [y :: p'] = D ++ [p] := h
    obtain ⟨rfl, rfl⟩ := mD h1
    split <;> rfl
   | cons d D'' =>
    have h1 : ((y :: d) :: D'') ++ [p'] = D ++ [p] := h
    obtain ⟨rfl, rfl⟩ := mD h1
    split <;> rfl
def bW (l : List UInt8) : Value := .string ⟨l.toArray⟩
theorem uF (s : ByteArray) (f k : Nat) (h : k ≤ s.size) : s.extract f k = ⟨((s.data.toList.take k).drop f).toArray⟩ := by
 apply ByteArray.ext
 apply Array.toList_inj.1
 rw [ByteArray.data_extract]
 simp [List.drop_take]
theorem rD : ∃ i : TypeInfo, Tryz.prog.info? 9 = some i ∧ i.zero = some (.string ⟨#[]⟩) ∧ i.size = 1 ∧ i.bytes = 16 := by
 have h : (Tryz.prog.info? 9).map (fun i => (i.zero, i.size, i.bytes)) = some (some (.string ⟨#[]⟩), 1, 16) := by kernel_rfl
 cases hi : Tryz.prog.info? 9 with
 | none => rw [hi] at h; cases h
 | some i =>
  rw [hi] at h
  have := Option.some.inj h
  simp only [Prod.mk.injEq] at this
  exact ⟨i, rfl, this.1, this.2.1, this.2.2⟩
theorem pt {w : World} {B n m : Nat} {t : TypeId} {v : Value} {xs : List Value} (h : w.ownsRow B t m v n xs) (o : Obj) : (w.alloc o).ownsRow B t m v n xs := by
 obtain ⟨h1, h2⟩ := h
 refine ⟨h1, ?_⟩
 rcases h2 with h2 | ⟨g, c', cur, e, hg, hh, r⟩
 ·exact .inl h2
 ·exact .inr ⟨g, c', cur, e, hg, by rw [(an w o).block g (Array.getElem?_eq_some_iff.1 hh).1]; exact hh, r⟩
theorem nu {B : Nat} {w w1 w2 : World} {row : Option Nat} (h : Below B w w1) (hg : w1.grownBy w2 row) (hB : B ≤ w1.heap.size) (hr : ∀ g, row = some g → B ≤ g) : Below B w w2 :=
 h.trans ⟨hg.os, hg.tape, hg.output, hg.size, fun k hk => hg.block k (by omega) (fun e => by have := hr k e.symm; omega)⟩
theorem vu (w : World) (v : Value) (t : TypeId) (j : Nat) (u : Value) (h : [v][j]? = some u) : (w.alloc (.cells #[v] t)).cell? ((⟨w.heap.size, 0, none⟩ : Addr).add j) = some u := by
 have hA : (⟨w.heap.size, 0, none⟩ : Addr).add j = ⟨w.heap.size, j, none⟩ := by unfold Addr.add; split <;> simp_all
 rw [hA, cell_of_row _ _ j #[v] t _ (heap_alloc_new w (.cells #[v] t))]
 simpa using h
def dK (w : World) (B : Nat) (v : Value) (D : List (List UInt8)) : Prop := w.ownsRow B 9 1 v D.length (D.map bW)
theorem ce (s : ByteArray) (c : UInt8) (w : World) (hs : s.size ≤ 8000) :
  Calls Tryz.prog 7 #[.string s, .int .u8 (c.toNat : Int)] w fun e w' => (∃ v, e = .returned v ∧ dK w' w.heap.size v (pcs c s.data.toList)) ∧ Below w.heap.size w w' := by
 obtain ⟨i0, hi, hz0, hz1, hz2⟩ := rD
 have hm8 : 10000 ≤ maxLen := by decide +kernel
 have B0 := yz (an w (.cells #[] 9))
 have O0 : Hid (dK (w.alloc (.cells #[] 9)) w.heap.size (.slice (some ⟨w.heap.size, 0, none⟩) 0 0) []) := yz ⟨rfl, .inr ⟨_, 0, #[], rfl, Nat.le_refl _, Array.getElem?_push_size, Nat.le_refl _, Nat.zero_le _, rfl, rfl⟩⟩
 go_enter Tryz.func7, Tryz.ntmps7
 go_wp2_with fail
 go_loopw [5, 6, 7] (fun v f i wr => ∃ (k fr : Nat) (D : List (List UInt8)), k ≤ s.size ∧ fr ≤ k ∧ D.length ≤ k ∧ i = .int .i64 k ∧ f = .int .i64 fr ∧ Hid (pcs c (s.data.toList.take k) = D ++ [(s.data.toList.take k).drop fr]) ∧ Hid (dK wr w.heap.size v D) ∧ Hid (Below w.heap.size w wr)) (fun _ _ i _ => s.size - (intOf i).toNat)
 case atStart => exact ⟨0, 0, [], by omega, by omega, by simp, rfl, rfl, yz rfl, O0, B0⟩
 case round =>
  clear O0 B0
  obtain ⟨k, fr, D, hk, hfr, hDl, rfl, rfl, HP, HO, HB⟩ := hrel
  by_cases hkn : k < s.size
  ·have hkn2 : (k : Int) < (s.size : Int) := by omega
   have HS := yz (vq (x := s[k]) (yy HP))
   rw [← oP s k hkn] at HS
   by_cases hc : s[k] = c
   ·have hb : ((s[k].toNat : Int) == (c.toNat : Int)) = true := by rw [hc]; simp
    have HP2 : Hid (pcs c (s.data.toList.take (k + 1)) = (D ++ [(s.data.toList.take k).drop fr]) ++ [(s.data.toList.take (k + 1)).drop (k + 1)]) := yz (by
     have e0 : (s.data.toList.take (k + 1)).drop (k + 1) = [] := List.drop_of_length_le (by rw [List.length_take]; exact Nat.min_le_left _ _)
     rw [yy HS, if_pos hc, e0]
     simp)
    have HX := yz (uF s fr k hk)
    have Z1 := an wr (.cells #[.string (s.extract fr k)] 9)
    have hown := pt (yy HO) (.cells #[.string (s.extract fr k)] 9)
    have HB2 := yz (ak (yy HB) Z1)
    have hsz := (yy HB).size
    clear HS HP Z1 HB HO
    go_wp2_with (at_builtin; refine wpList_append_own _ rfl _ _ 27 rfl w.heap.size 9 i0 (.string ⟨#[]⟩) 1 16 Tryz.underlying27 hi hz0 hz1 hz2 rfl (by decide) _ _ _ rfl hown ⟨wr.heap.size, 0, none⟩ 1 1 [.string (s.extract fr k)] rfl rfl ?d2 (fun u hu => by simp at hu; subst hu; rfl) ?d3 ?d4 ?d5 ?_)
    case d2 => exact vu _ _ _
    case d3 => omega
    case d4 => omega
    case d5 => simp; omega
    intro v7 V7 hown7 hgrow7 _
    have HO3 : Hid (dK V7 w.heap.size v7 (D ++ [(s.data.toList.take k).drop fr])) := yz (by
     unfold dK
     rw [List.map_append, List.length_append]
     show World.ownsRow _ _ _ _ _ _ (List.map bW D ++ [bW _])
     unfold bW
     rw [← yy HX]
     exact hown7)
    have HB3 := yz (nu (yy HB2) hgrow7 (by simp; omega) (fun g e => (hown.lt _ e).1))
    clear hown7 hgrow7 hown HB2 HX
    go_wp2_with fail
    go_roundw
    case rel => exact ⟨k + 1, k + 1, _, by omega, by omega, by simp; omega, by go_num, by go_num, HP2, HO3, HB3⟩
    case measure => simp [intOf]; omega
   ·have hb : ((s[k].toNat : Int) == (c.toNat : Int)) = false := by
     have : s[k].toNat ≠ c.toNat := fun e => hc (UInt8.toNat.inj e)
     simpa using (show (s[k].toNat : Int) ≠ (c.toNat : Int) by omega)
    have HP2 : Hid (pcs c (s.data.toList.take (k + 1)) = D ++ [(s.data.toList.take (k + 1)).drop fr]) := yz (by
     rw [yy HS, if_neg hc, oP s k hkn, List.drop_append_of_le_length (by rw [List.length_take, bg, Nat.min_eq_left hk]; exact hfr)])
    clear HS HP
    go_wp2_with fail
    go_roundw
    case rel => exact ⟨k + 1, fr, D, by omega, by omega, by omega, by go_num, rfl, HP2, HO, HB⟩
    case measure => simp [intOf]; omega
  ·have hks : k = s.size := by omega
   subst hks
   have HX := yz (uF s fr s.size hk)
   have Z1 := an wr (.cells #[.string (s.extract fr s.size)] 9)
   have hown := pt (yy HO) (.cells #[.string (s.extract fr s.size)] 9)
   have HB2 := yz (ak (yy HB) Z1)
   have hsz := (yy HB).size
   clear Z1 HB HO
   go_wp2_with (at_builtin; refine wpList_append_own _ rfl _ _ 27 rfl w.heap.size 9 i0 (.string ⟨#[]⟩) 1 16 Tryz.underlying27 hi hz0 hz1 hz2 rfl (by decide) _ _ _ rfl hown ⟨wr.heap.size, 0, none⟩ 1 1 [.string (s.extract fr s.size)] rfl rfl ?d2 (fun u hu => by simp at hu; subst hu; rfl) ?d3 ?d4 ?d5 ?_)
   case d2 => exact vu _ _ _
   case d3 => omega
   case d4 => omega
   case d5 => simp; omega
   intro v7 V7 hown7 hgrow7 _
   have HO3 : Hid (dK V7 w.heap.size v7 (pcs c s.data.toList)) := yz (by
    have e := yy HP
    have hx := yy HX
    rw [List.take_of_length_le (by rw [bg]; exact Nat.le_refl _)] at e hx
    unfold dK
    rw [e, List.map_append, List.length_append]
    show World.ownsRow _ _ _ _ _ _ (List.map bW D ++ [bW _])
    unfold bW
    rw [← hx]
    exact hown7)
   have HB3 := yz (nu (yy HB2) hgrow7 (by simp; omega) (fun g e => (hown.lt _ e).1))
   clear hown7 hgrow7 hown HB2 HX
   go_wp2_with fail
   go_ret
   exact ⟨⟨_, rfl, yy HO3⟩, yy HB3⟩
end
section
open Go.Shelf Go.RowKit Go.Sort Go.Lib
def tS : Go.Shelf.Ren := ⟨fun | 145 => 27 | 220 => 50 | 219 => 69 | 217 => 88 | 225 => 89 | 224 => 90 | 267 => 91 | 266 => 117 | 314 => 118 | n => n, fun | 9 => 9 | 4 => 4 | 59 => 73 | 3 => 3 | 5 => 5 | 46 => 139 | 146 => 159 | 51 => 158 | n => n, fun | 1 => 0 | n => n⟩
theorem vN : Go.Proofs.LaysM.n145 Tryz.prog tS := {
 mixed := by kernel_rfl
 f145 := Tryz.func27.trans (congrArg some (by kernel_rfl))
 f217 := Tryz.func88.trans (congrArg some (by kernel_rfl))
 f219 := Tryz.func69.trans (congrArg some (by kernel_rfl))
 f220 := Tryz.func50.trans (congrArg some (by kernel_rfl))
 f224 := Tryz.func90.trans (congrArg some (by kernel_rfl))
 f225 := Tryz.func89.trans (congrArg some (by kernel_rfl))
 f266 := Tryz.func117.trans (congrArg some (by kernel_rfl))
 f267 := Tryz.func91.trans (congrArg some (by kernel_rfl))
 f314 := Tryz.func118.trans (congrArg some (by kernel_rfl))
 t3 := Tryz.underlying3
 a3 := Tryz.isAgg3
 z3 := Tryz.sizeOf3
 v3 := Tryz.zeroValue3
 t4 := Tryz.underlying4
 a4 := Tryz.isAgg4
 z4 := Tryz.sizeOf4
 v4 := Tryz.zeroValue4
 t5 := Tryz.underlying5
 a5 := Tryz.isAgg5
 z5 := Tryz.sizeOf5
 v5 := Tryz.zeroValue5
 t9 := Tryz.underlying9
 a9 := Tryz.isAgg9
 z9 := Tryz.sizeOf9
 v9 := Tryz.zeroValue9
 t46 := Tryz.underlying139
 a46 := Tryz.isAgg139
 z46 := Tryz.sizeOf139
 v46 := Tryz.zeroValue139
 t51 := Tryz.underlying158
 a51 := Tryz.isAgg158
 z51 := Tryz.sizeOf158
 v51 := Tryz.zeroValue158
 t59 := Tryz.underlying73
 a59 := Tryz.isAgg73
 z59 := Tryz.sizeOf73
 v59 := Tryz.zeroValue73
 t146 := Tryz.underlying159
 a146 := Tryz.isAgg159
 z146 := Tryz.sizeOf159
 v146 := Tryz.zeroValue159
 g1 := by kernel_rfl
 i3 := by kernel_rfl
 i4 := by kernel_rfl
 i5 := by kernel_rfl
 i9 := by kernel_rfl
 i46 := by kernel_rfl
 i51 := by kernel_rfl
 i59 := by kernel_rfl
 i146 := by kernel_rfl
 m1 := by kernel_rfl
 s1_3 := fun w h => Go.Proofs.cell_of_shapedOpen_int (zero := #[.int .i64 0]) (t := 3) h (of_decide_eq_true (by kernel_rfl)) (by kernel_rfl) rfl (by kernel_rfl) (by kernel_rfl) Tryz.underlying3 }
def uh : Go.Shelf.Ren := ⟨fun | 146 => 51 | 221 => 70 | 268 => 92 | 138 => 93 | 143 => 94 | 195 => 119 | 197 => 120 | 218 => 121 | 219 => 69 | 260 => 146 | 217 => 88 | 225 => 89 | 224 => 90 | 267 => 91 | 266 => 117 | 314 => 118 | n => n, fun | 9 => 9 | 31 => 27 | 3 => 3 | 4 => 4 | 0 => 0 | 105 => 162 | 21 => 21 | 5 => 5 | 46 => 139 | 119 => 218 | 139 => 221 | 138 => 220 | 146 => 159 | 51 => 158 | n => n, fun | 1 => 0 | 3 => 2 | 4 => 3 | n => n⟩
theorem AU : Go.Proofs.LaysM.n146 Tryz.prog uh := {
 mixed := by kernel_rfl
 f138 := Tryz.func93.trans (congrArg some (by kernel_rfl))
 f143 := Tryz.func94.trans (congrArg some (by kernel_rfl))
 f146 := Tryz.func51.trans (congrArg some (by kernel_rfl))
 f195 := Tryz.func119.trans (congrArg some (by kernel_rfl))
 f197 := Tryz.func120.trans (congrArg some (by kernel_rfl))
 f217 := Tryz.func88.trans (congrArg some (by kernel_rfl))
 f218 := Tryz.func121.trans (congrArg some (by kernel_rfl))
 f219 := Tryz.func69.trans (congrArg some (by kernel_rfl))
 f221 := Tryz.func70.trans (congrArg some (by kernel_rfl))
 f224 := Tryz.func90.trans (congrArg some (by kernel_rfl))
 f225 := Tryz.func89.trans (congrArg some (by kernel_rfl))
 f260 := Tryz.func146.trans (congrArg some (by kernel_rfl))
 f266 := Tryz.func117.trans (congrArg some (by kernel_rfl))
 f267 := Tryz.func91.trans (congrArg some (by kernel_rfl))
 f268 := Tryz.func92.trans (congrArg some (by kernel_rfl))
 f314 := Tryz.func118.trans (congrArg some (by kernel_rfl))
 t0 := Tryz.underlying0
 a0 := Tryz.isAgg0
 z0 := Tryz.sizeOf0
 v0 := Tryz.zeroValue0
 t3 := Tryz.underlying3
 a3 := Tryz.isAgg3
 z3 := Tryz.sizeOf3
 v3 := Tryz.zeroValue3
 t4 := Tryz.underlying4
 a4 := Tryz.isAgg4
 z4 := Tryz.sizeOf4
 v4 := Tryz.zeroValue4
 t5 := Tryz.underlying5
 a5 := Tryz.isAgg5
 z5 := Tryz.sizeOf5
 v5 := Tryz.zeroValue5
 t9 := Tryz.underlying9
 a9 := Tryz.isAgg9
 z9 := Tryz.sizeOf9
 v9 := Tryz.zeroValue9
 t21 := Tryz.underlying21
 a21 := Tryz.isAgg21
 z21 := Tryz.sizeOf21
 v21 := Tryz.zeroValue21
 t31 := Tryz.underlying27
 a31 := Tryz.isAgg27
 z31 := Tryz.sizeOf27
 v31 := Tryz.zeroValue27
 t46 := Tryz.underlying139
 a46 := Tryz.isAgg139
 z46 := Tryz.sizeOf139
 v46 := Tryz.zeroValue139
 t51 := Tryz.underlying158
 a51 := Tryz.isAgg158
 z51 := Tryz.sizeOf158
 v51 := Tryz.zeroValue158
 t105 := Tryz.underlying162
 a105 := Tryz.isAgg162
 z105 := Tryz.sizeOf162
 v105 := Tryz.zeroValue162
 t119 := Tryz.underlying218
 a119 := Tryz.isAgg218
 z119 := Tryz.sizeOf218
 t138 := Tryz.underlying220
 a138 := Tryz.isAgg220
 z138 := Tryz.sizeOf220
 v138 := Tryz.zeroValue220
 t139 := Tryz.underlying221
 a139 := Tryz.isAgg221
 z139 := Tryz.sizeOf221
 v139 := Tryz.zeroValue221
 t146 := Tryz.underlying159
 a146 := Tryz.isAgg159
 z146 := Tryz.sizeOf159
 v146 := Tryz.zeroValue159
 g1 := by kernel_rfl
 g3 := by kernel_rfl
 g4 := by kernel_rfl
 i0 := by kernel_rfl
 i3 := by kernel_rfl
 i4 := by kernel_rfl
 i5 := by kernel_rfl
 i9 := by kernel_rfl
 i21 := by kernel_rfl
 i31 := by kernel_rfl
 i46 := by kernel_rfl
 i51 := by kernel_rfl
 i105 := by kernel_rfl
 i138 := by kernel_rfl
 i139 := by kernel_rfl
 i146 := by kernel_rfl
 m1 := by kernel_rfl
 s1_3 := fun w h => Go.Proofs.cell_of_shapedOpen_int (zero := #[.int .i64 0]) (t := 3) h (of_decide_eq_true (by kernel_rfl)) (by kernel_rfl) rfl (by kernel_rfl) (by kernel_rfl) Tryz.underlying3
 m3 := by kernel_rfl
 m4 := by kernel_rfl }
end
end Go.Proofs.YtlleafjdgblhcaaGreatDoor
