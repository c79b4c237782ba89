/- Several texts in one: DrS, LwK. -/
import Derived.Laws.OwnMore
import Derived.Deep.Onto
import Derived.Deep.RegionHeld
import Derived.Lib.QuietBelow
import Derived.BigQuiet
import Derived.Test.YthoiooefclbecaaGreatDoorQFnSkyOwn19
import Derived.Test.YthoiooefclbecaaGreatDoorQFnSkyOwn20
import Derived.Test.YthoiooefclbecaaGreatDoorQFnSkyOwn29
import Derived.Test.YthoiooefclbecaaGreatDoorQFnSkyOwn30
import Derived.Test.YthoiooefclbecaaGreatDoorQFnSkyOwn17
import Derived.Test.YthoiooefclbecaaGreatDoorQFnSkyOwn1
import Derived.Test.YthoiooefclbecaaGreatDoorQFnSkyOwn2
import Derived.Test.YthoiooefclbecaaGreatDoorQFnSkyOwn3
namespace Go.Proofs.YthoiooefclbecaaGreatDoor
set_option linter.unusedVariables false
set_option linter.unusedSimpArgs false
set_option maxRecDepth 100000
set_option maxHeartbeats 8000000
section
open Go.RowKit Go.Sort
theorem ft {w : World} {B n m : Nat} {t : TypeId} {a : Option Addr} {c : Nat} {xs : List Value} (h : w.ownsRow B t m (.slice a n c) n xs) (y : Addr) (e : a = some y) : B ≤ y.block ∧ y.block < w.heap.size := h.lt y.block (by subst e; rfl)
theorem dk {w w' : World} {B : Nat} {t : TypeId} {v : Value} {n m : Nat} {xs : List Value} (h : w.ownsRow B t m v n xs) (hB : Below w.heap.size w w') : w'.ownsRow B t m v n xs :=
 World.ownsRow.kept h (bV hB none) (by cases v.ownBlock with | none => exact .inl rfl | some g => exact .inr (fun e => by cases e))
structure ec (w : World) (b : Nat) (wr : World) (L : List St) (a : Option Addr) (cap : Nat) : Prop where
 src : aI b wr
 row : ap wr w.heap.size L a cap
 gr : w.grownBy wr (some b)
 lb : b < w.heap.size
 nn : a ≠ none
theorem tB {w wr : World} {b : Nat} {L : List St} {a : Option Addr} {cap : Nat} (h : ap wr w.heap.size L a cap) (lb : b < w.heap.size) : (Value.slice a L.length cap).ownBlock = none ∨ (Value.slice a L.length cap).ownBlock ≠ some b := by
 cases a with
 | none => exact .inl rfl
 | some y => exact .inr (fun e => by have h1 := (ft h y rfl).1; have h2 : y.block = b := Option.some.inj e; omega)
theorem ec.call {w wr w2 : World} {b : Nat} {L : List St} {a : Option Addr} {cap : Nat} (h : ec w b wr L a cap) (hS : aI b w2) (hg : wr.grownBy w2 (some b)) : ec w b w2 L a cap :=
 ⟨hS, World.ownsRow.kept h.row hg (tB h.row h.lb), al h.gr hg, h.lb, h.nn⟩
theorem ec.below {w wr w2 : World} {b : Nat} {L : List St} {a : Option Addr} {cap : Nat} (h : ec w b wr L a cap) (hx : Below wr.heap.size wr w2) : ec w b w2 L a cap :=
 ⟨h.src.below hx, h.row.kept hx, al h.gr (bV hx _), h.lb, h.nn⟩
theorem ec.take {w wr w2 : World} {b : Nat} {L L2 : List St} {a a2 : Option Addr} {cap cap2 : Nat} (h : ec w b wr L a cap) (hx : Below wr.heap.size wr w2) (hC : ap w2 wr.heap.size L2 a2 cap2) (hn : a2 ≠ none) : ec w b w2 L2 a2 cap2 :=
 ⟨h.src.below hx, World.ownsRow.mono hC h.gr.size, al h.gr (bV hx _), h.lb, hn⟩
theorem eK (w : World) (v0 v1 v2 v3 : Value) : Blk (w.alloc (.cells #[v0, v1, v2, v3] 62)) w.heap.size [v0, v1, v2, v3] 62 := bj w _ _
theorem mT (w : World) : ap (w.alloc px) w.heap.size sQ (some ⟨w.heap.size, 0, none⟩) 6 :=
 ⟨by decide +kernel, .inr ⟨w.heap.size, 6, _, rfl, Nat.le_refl _, heap_alloc_new w px, Nat.le_refl _, by decide +kernel, by decide +kernel, rfl⟩⟩
theorem eB (L : List St) (s : St) : aE (L ++ [s]) = aE L ++ stC s := by unfold aE; rw [List.flatMap_append]; simp
theorem ec.off {w wr : World} {b : Nat} {L : List St} {a : Option Addr} {cap : Nat} (h : ec w b wr L a cap) {xb : Nat} (hx : w.heap.size ≤ xb) (hf : ∀ q, a = some q → q.block ≠ xb) (i : Nat) (v : Value) : ec w b (wr.setCell ⟨xb, i, none⟩ v) L a cap := by
 have hg : wr.grownBy (wr.setCell ⟨xb, i, none⟩ v) (some xb) := ⟨rfl, rfl, rfl, by simp [World.setCell], fun k _ hk => heap_setCell_other wr _ k _ (fun e => hk (by rw [e]))⟩
 have := h.lb
 refine ⟨h.src.kept hg (fun c e => by have := Option.some.inj e; omega), World.ownsRow.kept h.row hg ?_, ⟨h.gr.os, h.gr.tape, h.gr.output, by simpa [World.setCell] using h.gr.size, fun k hk hne => ?_⟩, h.lb, h.nn⟩
 ·cases a with
  | none => exact .inl rfl
  | some y => exact .inr (fun e => hf y rfl (Option.some.inj e))
 ·rw [heap_setCell_other wr _ k _ (by show k ≠ xb; omega)]
  exact h.gr.block k hk hne
theorem fU {w : World} {g : Nat} {i x y z : Int} (h : Blk w g [.int .i64 i, .int .i64 x, .int .i64 y, .int .i64 z] 62) (j : Nat) (u : Value) (hj : (stC (i, x, y, z))[j]? = some u) : w.cell? ((⟨g, 0, none⟩ : Addr).add j) = some u := by
 have e : (⟨g, 0, none⟩ : Addr).add j = ⟨g, j, none⟩ := by cases j <;> simp [Addr.add]
 rw [e]
 exact h.cell j u hj
theorem jH {s : St} {u : Value} (h : u ∈ stC s) : u.oneCell' = true := eU (L := [s]) (by unfold aE; simpa using h)
theorem an {w w' : World} {g : Nat} {cs : List Value} {t : TypeId} {row : Option Nat} (h : Blk w g cs t) (hg : w.grownBy w' row) (hne : some g ≠ row) : Blk w' g cs t := (hg.block g h.lt hne).trans h
theorem pP {L : List St} {k : Nat} (hk : k < L.length) (s : St) : stA (L.set k s) k = s := by
 unfold stA
 rw [List.getD_eq_getElem?_getD, List.getElem?_set_self hk]
 rfl
def fZ (w : World) (g : Nat) (i x y z : Int) : Prop := Blk w g [.int .i64 i, .int .i64 x, .int .i64 y, .int .i64 z] 62
theorem kc : ∀ (L : List St) (k i : Nat) (u : Value) (s' : St), k < L.length → i < 4 → (stC (stA L k)).set i u = stC s' → (aE L).set (k * 4 + i) u = aE (L.set k s')
 | [], k, i, u, s', hk, _, _ => by simp at hk
 | x :: r, 0, i, u, s', _, hi, h => by
  show (stC x ++ aE r).set (0 * 4 + i) u = stC s' ++ aE r
  rw [List.set_append_left _ _ (by show 0 * 4 + i < 4; omega), show 0 * 4 + i = i by omega]
  rw [show (stC x).set i u = stC s' from h]
 | x :: r, k + 1, i, u, s', hk, hi, h => by
  have ih := kc r k i u s' (by simpa using hk) hi h
  show (stC x ++ aE r).set ((k + 1) * 4 + i) u = stC x ++ aE (r.set k s')
  rw [List.set_append_right _ _ (by show 4 ≤ _; omega), show (k + 1) * 4 + i - (stC x).length = k * 4 + i by show (k + 1) * 4 + i - 4 = _; omega, ih]
theorem jZ : ∀ (L : List St) (k i : Nat), k < L.length → i < 4 → (aE L)[k * 4 + i]? = (stC (stA L k))[i]?
 | [], k, i, hk, _ => by simp at hk
 | x :: r, 0, i, _, hi => by
  show (stC x ++ aE r)[0 * 4 + i]? = _
  rw [List.getElem?_append_left (by show 0 * 4 + i < 4; omega), show 0 * 4 + i = i by omega]
  rfl
 | x :: r, k + 1, i, hk, hi => by
  have ih := jZ r k i (by simpa using hk) hi
  show (stC x ++ aE r)[(k + 1) * 4 + i]? = _
  rw [List.getElem?_append_right (by show 4 ≤ _; omega), show (k + 1) * 4 + i - (stC x).length = k * 4 + i by show (k + 1) * 4 + i - 4 = _; omega, ih]
  rfl
theorem fl {w : World} {B : Nat} {L : List St} {a : Option Addr} {cap : Nat} (h : ap w B L a cap) (hp : 0 < L.length) : ∃ g, a = some ⟨g, 0, none⟩ := by
 rcases h.2 with ⟨_, h0⟩ | ⟨g, cp, cur, e, _⟩
 ·omega
 ·injection e with e1 _ _
  exact ⟨g, e1⟩
theorem bh {w : World} {B g : Nat} {L : List St} {cap : Nat} (h : ap w B L (some ⟨g, 0, none⟩) cap) {k : Nat} (hk : k < L.length) (i : Nat) (hi : i < 4) : w.cell? ⟨g, k * 4 + i, none⟩ = (stC (stA L k))[i]? ∧ w.frozen? ⟨g, k * 4 + i, none⟩ = false :=
 ⟨by rw [World.ownsRow.cellAt h (k * 4 + i) (by omega), jZ L k i hk hi], World.ownsRow.frozenAt h _⟩
theorem eW {w wr w2 : World} {row row2 : Option Nat} (h : w.grownBy wr row) (hg : wr.grownBy w2 row2) (hr : ∀ g, row2 = some g → w.heap.size ≤ g) : w.grownBy w2 row :=
 ⟨hg.os.trans h.os, hg.tape.trans h.tape, hg.output.trans h.output, Nat.le_trans h.size hg.size, fun k hk hne => (hg.block k (Nat.lt_of_lt_of_le hk h.size) (fun e => by have := hr k e.symm; omega)).trans (h.block k hk hne)⟩
theorem ec.put {w wr : World} {b g : Nat} {L : List St} {cap : Nat} (h : ec w b wr L (some ⟨g, 0, none⟩) cap) {k i : Nat} (hk : k < L.length) (hi : i < 4) {u : Value} {s' : St} (he : (stC (stA L k)).set i u = stC s') : ec w b (wr.setCell ⟨g, k * 4 + i, none⟩ u) (L.set k s') (some ⟨g, 0, none⟩) cap := by
 have hs := World.ownsRow.stored h.row (k * 4 + i) u
 have hgb := (ft h.row _ rfl).1
 have := h.lb
 refine ⟨h.src.kept hs.2 (fun c e => by have e2 : g = c := Option.some.inj e; have h3 : w.heap.size ≤ g := hgb; omega), ?_, eW h.gr hs.2 (fun c e => by have e2 : g = c := Option.some.inj e; have h3 : w.heap.size ≤ g := hgb; omega), h.lb, h.nn⟩
 have h1 := hs.1
 rw [kc L k i u s' hk hi he] at h1
 unfold ap
 rw [List.length_set]
 exact h1
theorem ec.app {w wr w2 : World} {b : Nat} {L : List St} {a : Option Addr} {cap : Nat} {s : St} {v' : Value} (h : ec w b wr L a cap) (hg : wr.grownBy w2 (Value.slice a L.length cap).ownBlock) (hr : w2.ownsRow w.heap.size 62 4 v' (L.length + 1) (aE L ++ stC s)) : ∃ a2 cap2, v' = .slice a2 (L.length + 1) cap2 ∧ ec w b w2 (L ++ [s]) a2 cap2 := by
 obtain ⟨a2, c2, rfl, _⟩ := em hr
 have := h.lb
 have hlo := h.row.lt
 refine ⟨a2, c2, rfl, h.src.kept hg (fun c e => by have := (hlo c e).1; omega), ?_, eW h.gr hg (fun c e => (hlo c e).1), h.lb, ?_⟩
 ·rw [← eB] at hr
  unfold ap
  rw [show (L ++ [s]).length = L.length + 1 by simp]
  exact hr
 ·intro e
  subst e
  rcases hr.2 with ⟨_, h0⟩ | ⟨g, cp, cur, e, _⟩
  ·omega
  ·cases e
theorem ss (V : World) (m : Nat) (hm : m < 4) : ∃ z : Int, (V.alloc (.cells #[.int .i64 0, .int .i64 5, .int .i64 9999, .int .i64 10000] 2)).cell? ⟨V.heap.size, m, none⟩ = some (.int .i64 z) := by
 have h := bj V [.int .i64 0, .int .i64 5, .int .i64 9999, .int .i64 10000] 2
 rcases (by omega : m = 0 ∨ m = 1 ∨ m = 2 ∨ m = 3) with rfl | rfl | rfl | rfl
 ·exact ⟨_, h.cell 0 _ rfl⟩
 ·exact ⟨_, h.cell 1 _ rfl⟩
 ·exact ⟨_, h.cell 2 _ rfl⟩
 ·exact ⟨_, h.cell 3 _ rfl⟩
theorem el (b : Nat) (w : World) (hS : aI b w) :
  Calls Tryz.prog 31 #[.pointer (some ⟨b, 0, none⟩)] w fun e w' => ∃ (L : List St) (a : Option Addr) (cap : Nat), e = .returned (.slice a L.length cap) ∧ L.length ≤ 13 ∧ ec w b w' L a cap := by
 obtain ⟨i0, hinf, hz0, hz1, hz2⟩ := info_parts iA
 have hlb := hS.lt
 have hm8 : 400 ≤ maxLen := by decide +kernel
 have HS := yz (hS.below (am w (.cells #[] 62)))
 have HST0 : Hid (ec w b (w.alloc (.cells #[] 62)) [] (some ⟨w.heap.size, 0, none⟩) 0) := yz ⟨yy HS, iG w w.heap.size (Nat.le_refl _), bV (am w _) _, hlb, fun e => by cases e⟩
 clear hS HS
 go_enter Tryz.func31, Tryz.ntmps31
 go_wp2_with fail
 refine (bO b 2 _ (yy HST0).src (by decide)).mono ?_
 rintro e W1 ⟨y1, rfl, hS1, hg1⟩
 have HST1 := yz ((yy HST0).call hS1 hg1)
 clear hS1 hg1 HST0
 go_upto_if 10 with fail
 go_cut [3] (fun lv wx => ∃ (L : List St) (a : Option Addr) (cap : Nat), lv = .slice a L.length cap ∧ L.length ≤ 6 ∧ Hid (ec w b wx L a cap))
 case first =>
  cases y1
  ·go_wp2_with fail
   go_meet
   exact ⟨[], _, 0, rfl, by decide, HST1⟩
  ·go_wp2_with fail
   refine (mA W1).mono ?_
   rintro e W2 ⟨rfl, rfl⟩
   go_wp2_with fail
   go_meet
   exact ⟨sQ, _, 6, rfl, by decide, yz ((yy HST1).take (am W1 px) (mT W1) (fun e => by cases e))⟩
 case rest =>
 clear HST1
 obtain ⟨L0, a0, cap0, rfl, hl0, HS0⟩ := hcut
 go_wp2_with fail
 refine (aT b 7 _ (yy HS0).src (by decide)).mono ?_
 rintro e W2 ⟨k0, rfl, hk0, hk7, _, hS2, hg2⟩
 replace hk7 := hk7 (by decide)
 obtain ⟨k1, rfl⟩ := Int.eq_ofNat_of_zero_le hk0
 have HS1 := yz ((yy HS0).call hS2 hg2)
 clear hS2 hg2 HS0 hk0
 go_wp2_with fail
 go_loopw [3, 4] (fun lv kv wr => ∃ (k : Nat) (L : List St) (a : Option Addr) (cap : Nat), kv = .int .i64 k ∧ lv = .slice a L.length cap ∧ L.length + k ≤ 12 ∧ Hid (ec w b wr L a cap)) (fun _ kv _ => (intOf kv).toNat)
 case atStart => exact ⟨k1, L0, a0, cap0, rfl, rfl, by omega, HS1⟩
 case round =>
  clear HS1 hl0 hk7
  obtain ⟨k, L, a, cap, rfl, rfl, hkl, HS⟩ := hrel
  by_cases hk : 0 < k
  ·have hk' : (0 : Int) < (k : Int) := by omega
   have hw1 : wrap64 (10 + (L.length : Int)) = 10 + (L.length : Int) := au (by omega) (by omega)
   go_wp2_with fail
   refine (lL b _ (yy HS).src).mono ?_
   rintro e W3 ⟨x, y, z, rfl, hS3, hg3⟩
   have HS3 := yz ((yy HS).call hS3 hg3)
   clear hS3 hg3 HS
   go_upto_region 8 with fail
   have HX : Hid (fZ (W3.alloc (.cells #[.int .i64 (10 + (L.length : Int)), .int .i64 x, .int .i64 y, .int .i64 z] 62)) W3.heap.size (10 + (L.length : Int)) x y z) := yz (eK W3 _ _ _ _)
   have HS4 := yz ((yy HS3).below (am W3 (.cells #[.int .i64 (10 + (L.length : Int)), .int .i64 x, .int .i64 y, .int .i64 z] 62)))
   have hxb : w.heap.size ≤ W3.heap.size := (yy HS3).gr.size
   have HF : Hid (∀ q, a = some q → q.block ≠ W3.heap.size) := yz (fun q e => Nat.ne_of_lt (ft (yy HS3).row q e).2)
   clear HS3 hw1
   generalize W3.alloc (.cells #[.int .i64 (10 + (L.length : Int)), .int .i64 x, .int .i64 y, .int .i64 z] 62) = W4 at *
   generalize W3.heap.size = xb at *
   generalize 10 + (L.length : Int) = sid at *
   have c1 := (yy HX).cell 1 _ rfl
   have c2 := (yy HX).cell 2 _ rfl
   have c3 := (yy HX).cell 3 _ rfl
   go_wp2_with fail
   refine (cY x y z W4).mono ?_
   rintro e W5 ⟨rfl, hx⟩
   have HS5 := yz ((yy HS4).below hx)
   have HX5 : Hid (fZ W5 xb sid x y z) := yz (Blk.kept (yy HX) hx)
   clear hx HS4 HX c1 c2 c3
   go_upto_if 26 with fail
   go_cut [5] (fun pv wx => pv = .pointer (some ⟨xb, 0, none⟩) ∧ ∃ (wv : World) (x y z : Int), wv = wx ∧ Hid (fZ wx xb sid x y z) ∧ Hid (ec w b wx L a cap))
   case first =>
    cases hr : ax x y z
    ·go_wp2_with fail
     go_meet
     exact ⟨rfl, _, x, y, z, rfl, HX5, HS5⟩
    ·have c1 := (yy HX5).cell 1 _ rfl
     have c2 := (yy HX5).cell 2 _ rfl
     have c3 := (yy HX5).cell 3 _ rfl
     go_wp2_with fail
     refine (eY x y z W5 hr).mono ?_
     rintro e W6 ⟨rfl, hx⟩
     have HS6 := yz ((yy HS5).below hx)
     have HX6 : Hid (fZ W6 xb sid x y z) := yz (Blk.kept (yy HX5) hx)
     clear hx c1 c2 c3
     have c1 := (yy HX6).cell 1 _ rfl
     have c2 := (yy HX6).cell 2 _ rfl
     have c3 := (yy HX6).cell 3 _ rfl
     have f1 := Blk.free (yy HX6) 1
     have f2 := Blk.free (yy HX6) 2
     have f3 := Blk.free (yy HX6) 3
     generalize wrap64 (x.tdiv (gI x y z)) = x2 at *
     generalize wrap64 (y.tdiv (gI x y z)) = y2 at *
     generalize wrap64 (z.tdiv (gI x y z)) = z2 at *
     go_wp2_with fail
     go_meet
     exact ⟨rfl, _, x2, y2, z2, rfl, yz (Blk.set (Blk.set (Blk.set (yy HX6) 1 _) 2 _) 3 _), yz ((((yy HS6).off hxb (yy HF) 1 _).off hxb (yy HF) 2 _).off hxb (yy HF) 3 _)⟩
   case rest =>
   clear HX5 HS5
   obtain ⟨rfl, wx, x, y, z, hwx, HX, HS⟩ := hcut
   subst hwx
   go_upto_region 10 with fail
   have hxl : xb < wx.heap.size := Blk.lt (yy HX)
   go_cut [6] (fun yv W9 => ∃ (L2 : List St) (a2 : Option Addr) (cap2 : Nat), yv = .slice a2 L2.length cap2 ∧ Hid (L2.length = L.length + 1) ∧ Hid (ap W9 wx.heap.size L2 a2 cap2) ∧ Hid (Below wx.heap.size wx W9))
   case first =>
    have HKS : Hid (∀ w' : World, Below wx.heap.size wx w' → w'.cell? ⟨xb, 0, none⟩ = some (.int .i64 sid) ∧ w'.cell? ⟨xb, 1, none⟩ = some (.int .i64 x) ∧ w'.cell? ⟨xb, 2, none⟩ = some (.int .i64 y) ∧ w'.cell? ⟨xb, 3, none⟩ = some (.int .i64 z)) := yz (fun w' h => ⟨by rw [h.cell hxl]; exact Blk.cell (yy HX) 0 _ rfl, by rw [h.cell hxl]; exact Blk.cell (yy HX) 1 _ rfl, by rw [h.cell hxl]; exact Blk.cell (yy HX) 2 _ rfl, by rw [h.cell hxl]; exact Blk.cell (yy HX) 3 _ rfl⟩)
    refine wp_region_held_drew (S := (fun w' => w'.cell? ⟨xb, 0, none⟩ = some (.int .i64 sid) ∧ w'.cell? ⟨xb, 1, none⟩ = some (.int .i64 x) ∧ w'.cell? ⟨xb, 2, none⟩ = some (.int .i64 y) ∧ w'.cell? ⟨xb, 3, none⟩ = some (.int .i64 z))) (by kernel_rfl) (yy HKS wx (Below.refl _ _)) (fun hHeld => ?_)
    refine ac 1 rfl ?_
    try simp only [Act.put, ah, ai, aj]
    refine ac 3 rfl ?_
    try simp only [Act.put, ah, ai, aj]
    have HV : Hid (Below wx.heap.size wx wx.drew) := yz (Below.refl wx.heap.size wx).drew
    obtain ⟨V0, HYY⟩ : ∃ YY, YY = wx.drew := ⟨_, rfl⟩
    rw [← HYY] at HV hHeld ⊢
    clear HYY
    refine ag 0 4 rfl (fun K hK => ?_) rfl fun K hK => ?_
    ·skip
     go_simp
     have hy := am V0 (.cells #[] 62)
     have HR0 : Hid ((V0.alloc (.cells #[] 62)).ownsRow wx.heap.size 62 4 (.slice (some ⟨V0.heap.size, 0, none⟩) 0 0) 0 []) := yz (iG V0 wx.heap.size (yy HV).size)
     have hg0 : wx.heap.size ≤ V0.heap.size := (yy HV).size
     replace HV := yz (ak (yy HV) hy)
     clear hy
     generalize V0.alloc (.cells #[] 62) = V1 at *
     generalize V0.heap.size = g0 at *
     refine hK.out _ _ (yy HKS _ (yy HV)) (fun hHeld2 => ?_)
     clear hK K hHeld
     have hHeld := hHeld2
     clear hHeld2
     refine ag 2 4 rfl (fun K hK => ?_) rfl fun K hK => ?_
     ·skip
      refine (if_pos (by kernel_rfl)).mpr ?_
      simp only [List.getElem_toArray, List.getElem_cons_succ, List.getElem_cons_zero]
      generalize hA : ({ tmps := _, defers := _ } : Act) = aa
      have hf0 : aa.eval (Operand.tmp 31) = .slice (some ⟨g0, 0, none⟩) 0 0 := by subst hA; simp [go_sem]
      have hf1 : aa.eval (Operand.tmp 32) = .slice a L.length cap := by subst hA; simp [go_sem]
      have hst := ((yy HS).row.kept (yy HV)).stars
      refine bH V1 (Operand.tmp 31) (Operand.tmp 32) 23 rfl wx.heap.size 62 i0 (.agg #[.int .i64 0, .int .i64 0, .int .i64 0, .int .i64 0]) 4 32 Tryz.underlying23 hinf hz0 hz1 hz2 rfl (by decide) (.slice (some ⟨g0, 0, none⟩) 0 0) 0 [] hf0 (yy HR0) a L.length cap (aE L) hf1 (eh L) (gB hst) (fc hst) (fun u hu => eU hu) (by omega) (by omega) (yy HV).size ?_
      intro v2 V2 ho hg
      subst hA
      rw [Nat.zero_add, List.nil_append] at ho
      have HR2 := yz ho
      replace HV := yz (aK (yy HV) hg (yy HV).size (fun q e => by have e2 : g0 = q := Option.some.inj e; omega))
      clear ho hg hf0 hf1 hst HR0
      simp only [Act.put, ah, ai, aj]
      refine hK.out _ _ (yy HKS _ (yy HV)) (fun hHeld2 => ?_)
      clear hK K hHeld
      have hHeld := hHeld2
      clear hHeld2
      refine af 4 rfl fun K hK => ?_
      go_simp
      have hy := am V2 (.cells #[.int .i64 sid, .int .i64 x, .int .i64 y, .int .i64 z] 62)
      have HN : Hid (fZ (V2.alloc (.cells #[.int .i64 sid, .int .i64 x, .int .i64 y, .int .i64 z] 62)) V2.heap.size sid x y z) := yz (eK V2 _ _ _ _)
      replace HR2 := yz (dk (yy HR2) hy)
      replace HV := yz (ak (yy HV) hy)
      clear hy
      generalize V2.alloc (.cells #[.int .i64 sid, .int .i64 x, .int .i64 y, .int .i64 z] 62) = V3 at *
      generalize V2.heap.size = g4 at *
      refine hK.out _ _ (yy HKS _ (yy HV)) (fun hHeld2 => ?_)
      clear hK K hHeld
      have hHeld := hHeld2
      clear hHeld2
      refine af 5 rfl fun K hK => ?_
      refine (if_pos (by kernel_rfl)).mpr ?_
      simp only [List.getElem_toArray, List.getElem_cons_succ, List.getElem_cons_zero]
      generalize hA : ({ tmps := _, defers := _ } : Act) = aa
      have hf0 : aa.eval (Operand.tmp 33) = v2 := by subst hA; simp [go_sem]
      have hf1 : aa.eval (Operand.tmp 35) = .slice (some ⟨g4, 0, none⟩) 1 1 := by subst hA; simp [go_sem]
      refine bH V3 (Operand.tmp 33) (Operand.tmp 35) 23 rfl wx.heap.size 62 i0 (.agg #[.int .i64 0, .int .i64 0, .int .i64 0, .int .i64 0]) 4 32 Tryz.underlying23 hinf hz0 hz1 hz2 rfl (by decide) v2 L.length (aE L) hf0 (yy HR2) (some ⟨g4, 0, none⟩) 1 1 (stC (sid, x, y, z)) hf1 rfl (fun e => by cases e) (fun ad e => by cases e; exact fU (yy HN)) (fun u hu => jH hu) (by omega) (by omega) (yy HV).size ?_
      intro v5 V4 ho hg
      subst hA
      obtain ⟨a5, c5, rfl, _⟩ := em ho
      have HC5 : Hid (ap V4 wx.heap.size (L ++ [(sid, x, y, z)]) a5 c5) := yz (by
       have h := ho
       rw [← eB] at h
       unfold ap
       rw [show (L ++ [(sid, x, y, z)]).length = L.length + 1 by simp]
       exact h)
      replace HV := yz (aK (yy HV) hg (yy HV).size (fun q e => ((yy HR2).lt q e).1))
      clear ho hg hf0 hf1 HR2
      simp only [Act.put, ah, ai, aj]
      refine hK.out _ _ (yy HKS _ (yy HV)) (fun hHeld2 => ?_)
      clear hK K hHeld
      have hHeld := hHeld2
      clear hHeld2
      refine af 6 rfl fun K hK => ?_
      go_simp
      refine hK.out _ _ (yy HKS _ (yy HV)) (fun hHeld2 => ?_)
      clear hK K hHeld
      have hHeld := hHeld2
      clear hHeld2
      refine wpAnyH_done (by kernel_rfl) ?_ _
      clear hHeld
      go_wp2_with fail
      go_meet
      exact ⟨L ++ [(sid, x, y, z)], a5, c5, by rw [show (L ++ [(sid, x, y, z)]).length = L.length + 1 by simp], yz (by simp), HC5, HV⟩
     ·skip
      go_simp
      have hy := am V1 (.cells #[.int .i64 sid, .int .i64 x, .int .i64 y, .int .i64 z] 62)
      have HN : Hid (fZ (V1.alloc (.cells #[.int .i64 sid, .int .i64 x, .int .i64 y, .int .i64 z] 62)) V1.heap.size sid x y z) := yz (eK V1 _ _ _ _)
      have hgg : V1.heap.size ≠ g0 := Ne.symm (Nat.ne_of_lt ((yy HR0).lt g0 rfl).2)
      replace HR0 := yz (dk (yy HR0) hy)
      replace HV := yz (ak (yy HV) hy)
      clear hy
      generalize V1.alloc (.cells #[.int .i64 sid, .int .i64 x, .int .i64 y, .int .i64 z] 62) = V6 at *
      generalize V1.heap.size = g4 at *
      refine hK.out _ _ (yy HKS _ (yy HV)) (fun hHeld2 => ?_)
      clear hK K hHeld
      have hHeld := hHeld2
      clear hHeld2
      refine af 2 rfl fun K hK => ?_
      refine (if_pos (by kernel_rfl)).mpr ?_
      simp only [List.getElem_toArray, List.getElem_cons_succ, List.getElem_cons_zero]
      generalize hA : ({ tmps := _, defers := _ } : Act) = aa
      have hf0 : aa.eval (Operand.tmp 31) = .slice (some ⟨g0, 0, none⟩) 0 0 := by subst hA; simp [go_sem]
      have hf1 : aa.eval (Operand.tmp 32) = .slice a L.length cap := by subst hA; simp [go_sem]
      have hst := ((yy HS).row.kept (yy HV)).stars
      refine bH V6 (Operand.tmp 31) (Operand.tmp 32) 23 rfl wx.heap.size 62 i0 (.agg #[.int .i64 0, .int .i64 0, .int .i64 0, .int .i64 0]) 4 32 Tryz.underlying23 hinf hz0 hz1 hz2 rfl (by decide) (.slice (some ⟨g0, 0, none⟩) 0 0) 0 [] hf0 (yy HR0) a L.length cap (aE L) hf1 (eh L) (gB hst) (fc hst) (fun u hu => eU hu) (by omega) (by omega) (yy HV).size ?_
      intro v2 V7 ho hg
      subst hA
      rw [Nat.zero_add, List.nil_append] at ho
      have HR2 := yz ho
      replace HN : Hid (fZ _ g4 sid x y z) := yz (an (yy HN) hg (fun e => hgg (Option.some.inj e)))
      replace HV := yz (aK (yy HV) hg (yy HV).size (fun q e => by have e2 : g0 = q := Option.some.inj e; omega))
      clear ho hg hf0 hf1 hst HR0
      simp only [Act.put, ah, ai, aj]
      refine hK.out _ _ (yy HKS _ (yy HV)) (fun hHeld2 => ?_)
      clear hK K hHeld
      have hHeld := hHeld2
      clear hHeld2
      refine af 5 rfl fun K hK => ?_
      refine (if_pos (by kernel_rfl)).mpr ?_
      simp only [List.getElem_toArray, List.getElem_cons_succ, List.getElem_cons_zero]
      generalize hA : ({ tmps := _, defers := _ } : Act) = aa
      have hf0 : aa.eval (Operand.tmp 33) = v2 := by subst hA; simp [go_sem]
      have hf1 : aa.eval (Operand.tmp 35) = .slice (some ⟨g4, 0, none⟩) 1 1 := by subst hA; simp [go_sem]
      refine bH V7 (Operand.tmp 33) (Operand.tmp 35) 23 rfl wx.heap.size 62 i0 (.agg #[.int .i64 0, .int .i64 0, .int .i64 0, .int .i64 0]) 4 32 Tryz.underlying23 hinf hz0 hz1 hz2 rfl (by decide) v2 L.length (aE L) hf0 (yy HR2) (some ⟨g4, 0, none⟩) 1 1 (stC (sid, x, y, z)) hf1 rfl (fun e => by cases e) (fun ad e => by cases e; exact fU (yy HN)) (fun u hu => jH hu) (by omega) (by omega) (yy HV).size ?_
      intro v5 V8 ho hg
      subst hA
      obtain ⟨a5, c5, rfl, _⟩ := em ho
      have HC5 : Hid (ap V8 wx.heap.size (L ++ [(sid, x, y, z)]) a5 c5) := yz (by
       have h := ho
       rw [← eB] at h
       unfold ap
       rw [show (L ++ [(sid, x, y, z)]).length = L.length + 1 by simp]
       exact h)
      replace HV := yz (aK (yy HV) hg (yy HV).size (fun q e => ((yy HR2).lt q e).1))
      clear ho hg hf0 hf1 HR2
      simp only [Act.put, ah, ai, aj]
      refine hK.out _ _ (yy HKS _ (yy HV)) (fun hHeld2 => ?_)
      clear hK K hHeld
      have hHeld := hHeld2
      clear hHeld2
      refine af 6 rfl fun K hK => ?_
      go_simp
      refine hK.out _ _ (yy HKS _ (yy HV)) (fun hHeld2 => ?_)
      clear hK K hHeld
      have hHeld := hHeld2
      clear hHeld2
      refine wpAnyH_done (by kernel_rfl) ?_ _
      clear hHeld
      go_wp2_with fail
      go_meet
      exact ⟨L ++ [(sid, x, y, z)], a5, c5, by rw [show (L ++ [(sid, x, y, z)]).length = L.length + 1 by simp], yz (by simp), HC5, HV⟩
    ·skip
     go_simp
     have hy := am V0 (.cells #[.int .i64 sid, .int .i64 x, .int .i64 y, .int .i64 z] 62)
     have HN : Hid (fZ (V0.alloc (.cells #[.int .i64 sid, .int .i64 x, .int .i64 y, .int .i64 z] 62)) V0.heap.size sid x y z) := yz (eK V0 _ _ _ _)
     replace HV := yz (ak (yy HV) hy)
     clear hy
     generalize V0.alloc (.cells #[.int .i64 sid, .int .i64 x, .int .i64 y, .int .i64 z] 62) = V10 at *
     generalize V0.heap.size = g4 at *
     refine hK.out _ _ (yy HKS _ (yy HV)) (fun hHeld2 => ?_)
     clear hK K hHeld
     have hHeld := hHeld2
     clear hHeld2
     refine af 0 rfl fun K hK => ?_
     go_simp
     have hy := am V10 (.cells #[] 62)
     have HR0 : Hid ((V10.alloc (.cells #[] 62)).ownsRow wx.heap.size 62 4 (.slice (some ⟨V10.heap.size, 0, none⟩) 0 0) 0 []) := yz (iG V10 wx.heap.size (yy HV).size)
     have hg0 : wx.heap.size ≤ V10.heap.size := (yy HV).size
     have hgg : g4 ≠ V10.heap.size := Nat.ne_of_lt (Blk.lt (yy HN))
     replace HN : Hid (fZ _ g4 sid x y z) := yz (Blk.kept (yy HN) hy)
     replace HV := yz (ak (yy HV) hy)
     clear hy
     generalize V10.alloc (.cells #[] 62) = V11 at *
     generalize V10.heap.size = g0 at *
     refine hK.out _ _ (yy HKS _ (yy HV)) (fun hHeld2 => ?_)
     clear hK K hHeld
     have hHeld := hHeld2
     clear hHeld2
     refine af 2 rfl fun K hK => ?_
     refine (if_pos (by kernel_rfl)).mpr ?_
     simp only [List.getElem_toArray, List.getElem_cons_succ, List.getElem_cons_zero]
     generalize hA : ({ tmps := _, defers := _ } : Act) = aa
     have hf0 : aa.eval (Operand.tmp 31) = .slice (some ⟨g0, 0, none⟩) 0 0 := by subst hA; simp [go_sem]
     have hf1 : aa.eval (Operand.tmp 32) = .slice a L.length cap := by subst hA; simp [go_sem]
     have hst := ((yy HS).row.kept (yy HV)).stars
     refine bH V11 (Operand.tmp 31) (Operand.tmp 32) 23 rfl wx.heap.size 62 i0 (.agg #[.int .i64 0, .int .i64 0, .int .i64 0, .int .i64 0]) 4 32 Tryz.underlying23 hinf hz0 hz1 hz2 rfl (by decide) (.slice (some ⟨g0, 0, none⟩) 0 0) 0 [] hf0 (yy HR0) a L.length cap (aE L) hf1 (eh L) (gB hst) (fc hst) (fun u hu => eU hu) (by omega) (by omega) (yy HV).size ?_
     intro v2 V12 ho hg
     subst hA
     rw [Nat.zero_add, List.nil_append] at ho
     have HR2 := yz ho
     replace HN : Hid (fZ _ g4 sid x y z) := yz (an (yy HN) hg (fun e => hgg (Option.some.inj e)))
     replace HV := yz (aK (yy HV) hg (yy HV).size (fun q e => by have e2 : g0 = q := Option.some.inj e; omega))
     clear ho hg hf0 hf1 hst HR0
     simp only [Act.put, ah, ai, aj]
     refine hK.out _ _ (yy HKS _ (yy HV)) (fun hHeld2 => ?_)
     clear hK K hHeld
     have hHeld := hHeld2
     clear hHeld2
     refine af 5 rfl fun K hK => ?_
     refine (if_pos (by kernel_rfl)).mpr ?_
     simp only [List.getElem_toArray, List.getElem_cons_succ, List.getElem_cons_zero]
     generalize hA : ({ tmps := _, defers := _ } : Act) = aa
     have hf0 : aa.eval (Operand.tmp 33) = v2 := by subst hA; simp [go_sem]
     have hf1 : aa.eval (Operand.tmp 35) = .slice (some ⟨g4, 0, none⟩) 1 1 := by subst hA; simp [go_sem]
     refine bH V12 (Operand.tmp 33) (Operand.tmp 35) 23 rfl wx.heap.size 62 i0 (.agg #[.int .i64 0, .int .i64 0, .int .i64 0, .int .i64 0]) 4 32 Tryz.underlying23 hinf hz0 hz1 hz2 rfl (by decide) v2 L.length (aE L) hf0 (yy HR2) (some ⟨g4, 0, none⟩) 1 1 (stC (sid, x, y, z)) hf1 rfl (fun e => by cases e) (fun ad e => by cases e; exact fU (yy HN)) (fun u hu => jH hu) (by omega) (by omega) (yy HV).size ?_
     intro v5 V13 ho hg
     subst hA
     obtain ⟨a5, c5, rfl, _⟩ := em ho
     have HC5 : Hid (ap V13 wx.heap.size (L ++ [(sid, x, y, z)]) a5 c5) := yz (by
      have h := ho
      rw [← eB] at h
      unfold ap
      rw [show (L ++ [(sid, x, y, z)]).length = L.length + 1 by simp]
      exact h)
     replace HV := yz (aK (yy HV) hg (yy HV).size (fun q e => ((yy HR2).lt q e).1))
     clear ho hg hf0 hf1 HR2
     simp only [Act.put, ah, ai, aj]
     refine hK.out _ _ (yy HKS _ (yy HV)) (fun hHeld2 => ?_)
     clear hK K hHeld
     have hHeld := hHeld2
     clear hHeld2
     refine af 6 rfl fun K hK => ?_
     go_simp
     refine hK.out _ _ (yy HKS _ (yy HV)) (fun hHeld2 => ?_)
     clear hK K hHeld
     have hHeld := hHeld2
     clear hHeld2
     refine wpAnyH_done (by kernel_rfl) ?_ _
     clear hHeld
     go_wp2_with fail
     go_meet
     exact ⟨L ++ [(sid, x, y, z)], a5, c5, by rw [show (L ++ [(sid, x, y, z)]).length = L.length + 1 by simp], yz (by simp), HC5, HV⟩
   case rest =>
   obtain ⟨L2, a2, cap2, rfl, HL2, HC2, HB2⟩ := hcut
   have hL13 : L2.length ≤ 1048576 := by have := yy HL2; omega
   have HS9 := yz ((yy HS).below (yy HB2))
   have HT9 := yz ((yy HS).take (yy HB2) (yy HC2) (fun e => by obtain ⟨g, hg⟩ := fl (yy HC2) (by have := yy HL2; omega); rw [hg] at e; cases e))
   clear HS HX HB2
   go_wp2_with fail
   with_reducible refine (bL L2 a2 cap2 _ hL13 (yy HC2).stars).mono ?_
   rintro e W10 ⟨rfl, hx⟩
   have HS10 := yz ((yy HS9).below hx)
   have HT10 := yz ((yy HT9).below hx)
   clear hx HS9 HT9 HC2
   cases aB L2
   ·go_wp2_with fail
    go_roundw
    case rel => exact ⟨k - 1, L, a, cap, (by rw [show ((k - 1 : Nat) : Int) = (k : Int) - 1 by omega]), rfl, by omega, HS10⟩
    case measure => simp [intOf] <;> omega
   ·go_wp2_with fail
    go_roundw
    case rel => exact ⟨k - 1, L2, a2, cap2, (by rw [show ((k - 1 : Nat) : Int) = (k : Int) - 1 by omega]), rfl, by have := yy HL2; omega, HT10⟩
    case measure => simp [intOf] <;> omega
  ·obtain rfl : k = 0 := by omega
   go_wp2_with fail
   refine (bO b 15 _ (yy HS).src (by decide)).mono ?_
   rintro e W3 ⟨y2, rfl, hS3, hg3⟩
   have HS3 := yz ((yy HS).call hS3 hg3)
   clear hS3 hg3 HS
   by_cases hgo : y2 = true ∧ 0 < L.length
   ·obtain ⟨rfl, hp⟩ := hgo
    have hp' : (0 : Int) < (L.length : Int) := by omega
    obtain ⟨g, rfl⟩ := fl (yy HS3).row hp
    go_wp2_with fail
    refine (aT b L.length _ (yy HS3).src (by omega)).mono ?_
    rintro e W4 ⟨kk, rfl, hk0, hk1, hk2, hS4, hg4⟩
    obtain ⟨q, rfl⟩ := Int.eq_ofNat_of_zero_le hk0
    have hq : q < L.length := by
     by_cases h1 : 1 < (L.length : Int)
     ·have := hk1 h1; omega
     ·have := hk2 (by omega); omega
    have hq' : (q : Int) < (L.length : Int) := by omega
    have HS4 := yz ((yy HS3).call hS4 hg4)
    clear hS4 hg4 HS3 hk0 hk1 hk2
    go_wp2_with fail
    refine (aT b 3 _ (yy HS4).src (by decide)).mono ?_
    rintro e W5 ⟨j, rfl, hj0, hj3, _, hS5, hg5⟩
    replace hj3 := hj3 (by decide)
    have HS5 := yz ((yy HS4).call hS5 hg5)
    clear hS5 hg5 HS4
    obtain ⟨⟨s0, s1, s2, s3⟩, hs⟩ : ∃ s, stA L q = s := ⟨_, rfl⟩
    rcases (by omega : j = 0 ∨ j = 1 ∨ j = 2) with rfl | rfl | rfl
    ·have hy := am W5 (.cells #[.int .i64 0, .int .i64 5, .int .i64 9999, .int .i64 10000] 2)
     have H4 := yz (ss W5)
     have HS6 := yz ((yy HS5).below hy)
     have hb6 : b ≠ W5.heap.size := Nat.ne_of_lt (yy HS5).src.lt
     clear hy HS5
     go_wp2_with fail
     refine (aT b 4 _ (yy HS6).src (by decide)).mono ?_
     rintro e W6 ⟨m, rfl, hm0, hm4, _, hS7, hg7⟩
     replace hm4 := hm4 (by decide)
     obtain ⟨m, rfl⟩ := Int.eq_ofNat_of_zero_le hm0
     obtain ⟨zz, hzz⟩ := yy H4 m (by omega)
     have hzz6 : W6.cell? ⟨W5.heap.size, m, none⟩ = some (.int .i64 zz) := hg7.cell hzz (fun e => hb6 (Option.some.inj e).symm)
     have HS7 := yz ((yy HS6).call hS7 hg7)
     clear hS7 hg7 HS6 hzz H4
     have hm4' : (m : Int) < 4 := by omega
     obtain ⟨c0, f0⟩ := bh (yy HS7).row hq 0 (by decide)
     rw [hs] at c0
     have HS8 := yz ((yy HS7).put hq (i := 0) (by decide) (u := .int .i64 zz) (s' := (zz, s1, s2, s3)) (by rw [hs]; rfl))
     rw [Nat.add_zero] at c0 f0 HS8
     go_wp2_with fail
     go_ret
     exact ⟨_, _, _, by rw [List.length_set]; rfl, by rw [List.length_set]; omega, yy HS8⟩
    ·go_wp2_with fail
     refine (lL b _ (yy HS5).src).mono ?_
     rintro e W6 ⟨x, y, z, rfl, hS7, hg7⟩
     have HS7 := yz ((yy HS5).call hS7 hg7)
     clear hS7 hg7 HS5
     obtain ⟨c1, f1⟩ := bh (yy HS7).row hq 1 (by decide)
     obtain ⟨c2, f2⟩ := bh (yy HS7).row hq 2 (by decide)
     obtain ⟨c3, f3⟩ := bh (yy HS7).row hq 3 (by decide)
     rw [hs] at c1 c2 c3
     replace c1 : W6.cell? ⟨g, q * 4 + 1, none⟩ = some (.int .i64 s1) := c1
     replace c2 : W6.cell? ⟨g, q * 4 + 1 + 1, none⟩ = some (.int .i64 s2) := c2
     replace c3 : W6.cell? ⟨g, q * 4 + 1 + 2, none⟩ = some (.int .i64 s3) := c3
     replace f2 : W6.frozen? ⟨g, q * 4 + 1 + 1, none⟩ = false := f2
     replace f3 : W6.frozen? ⟨g, q * 4 + 1 + 2, none⟩ = false := f3
     have e1 : stA (L.set q (s0, x, s2, s3)) q = (s0, x, s2, s3) := pP hq _
     have e2 : stA ((L.set q (s0, x, s2, s3)).set q (s0, x, y, s3)) q = (s0, x, y, s3) := pP (by rw [List.length_set]; exact hq) _
     have HS8 := yz ((((yy HS7).put hq (i := 1) (by decide) (u := .int .i64 x) (s' := (s0, x, s2, s3)) (by rw [hs]; rfl)).put (k := q) (by rw [List.length_set]; exact hq) (i := 2) (by decide) (u := .int .i64 y) (s' := (s0, x, y, s3)) (by rw [e1]; rfl)).put (k := q) (by rw [List.length_set, List.length_set]; exact hq) (i := 3) (by decide) (u := .int .i64 z) (s' := (s0, x, y, z)) (by rw [e2]; rfl))
     clear e1 e2
     go_wp2_with fail
     go_ret
     exact ⟨_, _, _, by rw [List.length_set, List.length_set, List.length_set]; rfl, by rw [List.length_set, List.length_set, List.length_set]; omega, yy HS8⟩
    ·obtain ⟨c0, _⟩ := bh (yy HS5).row hq 0 (by decide)
     obtain ⟨c1, _⟩ := bh (yy HS5).row hq 1 (by decide)
     obtain ⟨c2, _⟩ := bh (yy HS5).row hq 2 (by decide)
     obtain ⟨c3, _⟩ := bh (yy HS5).row hq 3 (by decide)
     rw [hs] at c0 c1 c2 c3
     replace c0 : W5.cell? ⟨g, q * 4, none⟩ = some (.int .i64 s0) := c0
     replace c1 : W5.cell? ⟨g, q * 4 + 1, none⟩ = some (.int .i64 s1) := c1
     replace c2 : W5.cell? ⟨g, q * 4 + 2, none⟩ = some (.int .i64 s2) := c2
     replace c3 : W5.cell? ⟨g, q * 4 + 3, none⟩ = some (.int .i64 s3) := c3
     have hy := am W5 (.cells #[.int .i64 s0, .int .i64 s1, .int .i64 s2, .int .i64 s3] 62)
     have HS6 := yz ((yy HS5).below hy)
     have HN := yz (eK W5 (.int .i64 s0) (.int .i64 s1) (.int .i64 s2) (.int .i64 s3))
     clear hy
     have hown := (yy HS6).row
     unfold ap at hown
     have hszw := (yy HS6).gr.size
     go_wp2_with (at_builtin; refine wpList_append_own _ rfl _ _ 23 rfl w.heap.size 62 i0 (.agg #[.int .i64 0, .int .i64 0, .int .i64 0, .int .i64 0]) 4 32 Tryz.underlying23 hinf hz0 hz1 hz2 rfl (by decide) _ _ _ rfl hown ⟨W5.heap.size, 0, none⟩ 1 1 (stC (s0, s1, s2, s3)) rfl rfl ?d2 (fun u hu => jH hu) ?d3 ?d4 ?d5 ?_)
     case d2 => exact fU (yy HN)
     case d3 => omega
     case d4 => omega
     case d5 => exact hszw
     intro v7 V7 hown7 hgrow7 _
     obtain ⟨a9, c9, rfl, hS9⟩ := (yy HS6).app hgrow7 hown7
     have HS9 := yz hS9
     clear hown7 hgrow7 hS9 hown
     go_wp2_with fail
     go_ret
     exact ⟨L ++ [(s0, s1, s2, s3)], _, _, by rw [show (L ++ [(s0, s1, s2, s3)]).length = L.length + 1 by simp]; rfl, by simp; omega, yy HS9⟩
   ·have hl13 : L.length ≤ 13 := by omega
    have hno : (y2 && decide ((0 : Int) < (L.length : Int))) = false := by
     cases y2
     ·rfl
     ·have h0 : L.length = 0 := by have : ¬ 0 < L.length := fun h => hgo ⟨rfl, h⟩; omega
      rw [h0]
      rfl
    cases y2
    ·go_wp2_with fail
     go_ret
     exact ⟨L, _, _, rfl, hl13, yy HS3⟩
    ·have hp' : ¬ (0 : Int) < (L.length : Int) := by simpa using hno
     go_wp2_with fail
     go_ret
     exact ⟨L, _, _, rfl, hl13, yy HS3⟩
theorem kX (a1 a2 a3 a4 : Int) (w : World) : (binOp .neq 62 (.agg #[.int .i64 a1, .int .i64 a2, .int .i64 a3, .int .i64 a4]) (.agg #[.int .i64 a1, .int .i64 a2, .int .i64 a3, .int .i64 a4])).run Tryz.prog w = .ok (.bool false) w := by
 simp [go_sem]
theorem kj (L : List St) (a a' : Option Addr) (c c' : Nat) (w : World) (hn : L.length ≤ 1048576) (hS : aA w a L L.length) (hS' : aA w a' L L.length) :
  Calls Tryz.prog 16 #[.slice a L.length c, .slice a' L.length c'] w fun e w' => e = .returned (.bool true) ∧ Below w.heap.size w w' := by
 have hq := kX
 have HS := yz hS
 have HS' := yz hS'
 clear hS hS'
 go_enter Tryz.func16, Tryz.ntmps16
 go_wp2_with fail
 go_loopw [5] (fun i wr => ∃ k : Nat, k ≤ L.length ∧ i = .int .i64 k ∧ Hid (Below w.heap.size w wr)) (fun i _ => L.length - (intOf i).toNat)
 case atStart => exact ⟨0, by omega, rfl, yz (Below.refl _ _)⟩
 case round =>
  obtain ⟨k, hk, rfl, HB⟩ := hrel
  by_cases hkn : k < L.length
  ·have hkn2 : (k : Int) < (L.length : Int) := by omega
   have h1 : ∃ g o, a = some ⟨g, o, none⟩ ∧ dA wr g (o + k * 4) (stA L k) := by
    rcases (yy HS).kept (yy HB) with h | ⟨g, o, e, _, h⟩
    ·omega
    ·exact ⟨g, o, e, h k hkn⟩
   have h2 : ∃ g o, a' = some ⟨g, o, none⟩ ∧ dA wr g (o + k * 4) (stA L k) := by
    rcases (yy HS').kept (yy HB) with h | ⟨g, o, e, _, h⟩
    ·omega
    ·exact ⟨g, o, e, h k hkn⟩
   obtain ⟨g, o, rfl, hc⟩ := h1
   obtain ⟨g', o', rfl, hd⟩ := h2
   obtain ⟨⟨s0, s1, s2, s3⟩, hsA⟩ : ∃ s, stA L k = s := ⟨_, rfl⟩
   rw [hsA] at hc hd
   obtain ⟨c0, c1, c2, c3⟩ := hc
   obtain ⟨d0, d1, d2, d3⟩ := hd
   have r0 := cell_regrown c0
   have r1 := cell_regrown c1
   have r2 := cell_regrown c2
   have r3 := cell_regrown c3
   have t0 := cell_regrown d0
   have t1 := cell_regrown d1
   have t2 := cell_regrown d2
   have t3 := cell_regrown d3
   dsimp only at r0 r1 r2 r3 t0 t1 t2 t3
   clear c0 c1 c2 c3 d0 d1 d2 d3 hsA
   go_wp2_with fail
   refine wp_region_quiet_below (by kernel_rfl) (by kernel_rfl) ?_
   repeat (go_big_quiet_step (fail))
   refine wpQuiet_nil ?_
   intro _ hw'
   obtain ⟨⟨dq, osq⟩, hw''⟩ := hw'
   subst hw''
   have hx := ak (yy HB) (below_regrown wr dq osq)
   generalize grow (redrawn wr dq) osq = W2 at hx ⊢
   have HB2 := yz hx
   clear hx HB r0 t0 r1 t1 r2 t2 r3 t3
   go_wp2_with fail
   go_roundw
   case rel => exact ⟨k + 1, by omega, by go_num, HB2⟩
   case measure => simp [intOf] <;> omega
  ·have hkn' : k = L.length := by omega
   subst hkn'
   go_wp2_with fail
   go_ret
   exact ⟨rfl, yy HB⟩
end
end Go.Proofs.YthoiooefclbecaaGreatDoor
