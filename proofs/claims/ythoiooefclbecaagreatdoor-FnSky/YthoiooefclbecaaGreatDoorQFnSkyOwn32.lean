/- Several texts in one: SeenB, ReadG, BackMath. -/
import Derived.Test.YthoiooefclbecaaGreatDoorQFnSkyOwn19
import Derived.Test.YthoiooefclbecaaGreatDoorQFnSkyOwn28
import Derived.Test.YthoiooefclbecaaGreatDoorQFnSkyOwn29
import Derived.Test.YthoiooefclbecaaGreatDoorQFnSkyOwn24
import Derived.Test.YthoiooefclbecaaGreatDoorQFnSkyOwn5
import Derived.Test.YthoiooefclbecaaGreatDoorQFnSkyOwn20
namespace Go.Proofs.YthoiooefclbecaaGreatDoor
set_option linter.unusedVariables false
set_option linter.unusedSimpArgs false
set_option maxRecDepth 100000
set_option maxHeartbeats 8000000
section
open Go.RowKit Go.Sort
theorem mc {w w' : World} (h : Below w.heap.size w w') : w.grownBy w' none := ⟨h.os, h.tape, h.output, h.size, fun k hk _ => h.block k hk⟩
theorem jD {w w' : World} {B : Nat} {t : TypeId} {v : Value} {n m : Nat} {xs : List Value} (h : w.ownsRow B t m v n xs) (hB : Below w.heap.size w w') : w'.ownsRow B t m v n xs :=
 h.kept (mc hB) (by cases hv : v.ownBlock <;> simp)
theorem aG.grownW {w w' : World} {b : Nat} {p q r s : Int} {row : Option Nat} (h : aG w b p q r s) (hg : w.grownBy w' row) (hne : some b ≠ row) : aG w' b p q r s := by
 obtain ⟨h0, h1, h2, h3⟩ := h
 exact ⟨hg.cell h0 hne, hg.cell h1 hne, hg.cell h2 hne, hg.cell h3 hne⟩
theorem oA {s : St} {a b c d : Int} (cone : Int) (ht : aM a b c d = true) (hs : aF s.2.1 s.2.2.1 s.2.2.2 = true) :
  apR a b c d s.2.1 s.2.2.1 s.2.2.2 = true := by
 have hw : aO s.2.1 s.2.2.1 s.2.2.2 = true := by
  obtain ⟨h1, h2⟩ := bt hs
  have := aH.1 h2
  unfold aO
  rw [h1]
  have h3 : az 1800 s.2.1 s.2.2.1 s.2.2.2 = true := aH.2 ⟨by omega, by omega, by omega⟩
  rw [h3]
  rfl
 unfold apR
 rw [ht, hw]
 rfl
theorem rN (L : List St) (a b c d cone : Int) (ar : Option Addr) (cap : Nat) (p : Addr) (w : World) (hn : L.length ≤ 1048576) (hcap : L.length ≤ cap) (hc9 : cap ≤ 9223372036854775807) (hS : aA w ar L L.length) (hE : aU p w) :
  Calls Tryz.prog 22 #[.slice ar L.length cap, .agg #[.int .i64 a, .int .i64 b, .int .i64 c, .int .i64 d], .int .i64 cone] w fun e w' => ∃ v, e = .returned v ∧ w'.ownsRow (w.heap.size + 1) 2 1 v (dM L a b c d cone).length (jq (dM L a b c d cone)) ∧ Below w.heap.size w w' := by
 have cS := yz (fun (W : World) hW hE => ct L ar cap p W hn hcap hc9 hW hE)
 have HS := yz hS
 have HE := yz hE
 clear hS hE
 have HV := yz (show dM L a b c d cone = if (aB L && aM a b c d && (decide (0 ≤ cone) && decide (cone ≤ 100))) = true then aW L a b c d cone L.length else [] from rfl)
 have H12 : Hid (aB L = true → L.length ≤ 12 ∧ kY L L.length) := yz (fun h => aQ h)
 generalize L.length = n at *
 obtain ⟨i0, hi, hz0, hz1, hz2⟩ := info_parts nk
 have HB := yz (am w (.cells #[.int .i64 a, .int .i64 b, .int .i64 c, .int .i64 d] 37))
 have HA := yz (bc w a b c d 37)
 go_enter Tryz.func22, Tryz.ntmps22
 go_wp2_with fail
 refine (yy cS _ ((yy HS).kept (yy HB)) ((yy HE).kept (yy HB))).mono ?_
 rintro e w1 ⟨rfl, hx⟩
 have HB1 := yz (ak (yy HB) hx)
 have HA1 := yz ((yy HA).kept (by simp) hx)
 clear hx HB HA
 cases hk : aB L
 ·rw [hk] at HV
  clear hk
  go_wp2_with fail
  go_ret
  exact ⟨_, rfl, by rw [yy HV]; exact World.ownsRow_nil _ _ _ _, yy HB1⟩
 obtain ⟨h12, hok⟩ := yy H12 hk
 have HO := yz hok
 rw [hk] at HV
 clear hk hok
 have va := yy HA1
 obtain ⟨c0, c1, c2, c3⟩ := va
 go_wp2_with fail
 refine (gi a b c d _).mono ?_
 rintro e w2 ⟨rfl, hx⟩
 have HB2 := yz (ak (yy HB1) hx)
 have HA2 := yz ((yy HA1).kept (yy HA1).lt hx)
 clear hx HB1 HA1 c0 c1 c2 c3
 cases hr : aM a b c d
 ·rw [hr] at HV
  clear hr
  go_wp2_with fail
  go_ret
  exact ⟨_, rfl, by rw [yy HV]; exact World.ownsRow_nil _ _ _ _, yy HB2⟩
 rw [hr] at HV
 by_cases hc0 : cone < 0
 ·have hd : decide (0 ≤ cone) = false := by simp; omega
  rw [hd] at HV
  clear hd hr
  go_wp2_with fail
  go_ret
  exact ⟨_, rfl, by rw [yy HV]; exact World.ownsRow_nil _ _ _ _, yy HB2⟩
 by_cases hc1 : 100 < cone
 ·have hd : decide (cone ≤ 100) = false := by simp; omega
  rw [hd, Bool.and_false] at HV
  have hc0' : decide (cone < 0) = false := by simpa using hc0
  clear hd hr
  go_wp2_with fail
  go_ret
  exact ⟨_, rfl, by rw [yy HV]; exact World.ownsRow_nil _ _ _ _, yy HB2⟩
 have hd0 : decide (0 ≤ cone) = true := by simp; omega
 have hd1 : decide (cone ≤ 100) = true := by simp; omega
 rw [hd0, hd1] at HV
 have HV' : Hid (dM L a b c d cone = aW L a b c d cone n) := yz (by rw [yy HV]; rfl)
 have HR := yz hr
 have hc0' : decide (cone < 0) = false := by simpa using hc0
 clear HV hd0 hd1 hr
 rcases yy HS with rfl | ⟨b0, o, rfl, hb, hc⟩
 ·go_wp2_with fail
  refine wp_loop_rounds 1 ?_
  rw [rounds_succ]
  go_wp2_with fail
  go_ret
  exact ⟨_, rfl, by rw [yy HV']; exact World.ownsRow_nil _ _ _ _, yy HB2⟩
 have HC := yz hc
 clear hc
 go_wp2_with fail
 clear hc0' hc0 hc1
 go_loopw [7, 28] (fun v i wr => ∃ k : Nat, k ≤ n ∧ i = .int .i64 k ∧ Hid (wr.ownsRow (w.heap.size + 1) 2 1 v (aW L a b c d cone k).length (jq (aW L a b c d cone k))) ∧ Hid (Below w.heap.size w wr) ∧ Hid (aG wr w.heap.size a b c d)) (fun _ i _ => n - (intOf i).toNat)
 case atStart => exact ⟨0, by omega, rfl, yz (World.ownsRow_nil _ _ _ _), HB2, HA2⟩
 case round =>
  clear HB2 HA2
  obtain ⟨k, hk, rfl, HW, HB, HA⟩ := hrel
  by_cases hkn : k < n
  ·obtain ⟨⟨s1, s2, s3, s4⟩, hs⟩ : ∃ s, stA L k = s := ⟨_, rfl⟩
   have hst := ((yy HC) k hkn).kept hb (yy HB)
   have hsm := ck ((yy HO) k hkn)
   rw [hs] at hst hsm
   obtain ⟨c0, c1, c2, c3⟩ := hst
   have hap : apR a b c d s2 s3 s4 = true := oA (s := (s1, s2, s3, s4)) cone (yy HR) hsm
   have cA : Hid (∀ W : World, Calls Tryz.prog 29 #[.agg #[.int .i64 a, .int .i64 b, .int .i64 c, .int .i64 d], .agg #[.int .i64 s2, .int .i64 s3, .int .i64 s4]] W fun e w' => e = .returned (.agg #[.int .i64 (apX a b c d s2 s3 s4), .int .i64 (apY a b c d s2 s3 s4), .int .i64 (apZ a b c d s2 s3 s4)]) ∧ Below W.heap.size W w') := yz (fun W => (il a b c d s2 s3 s4 W).mono fun e w' h => ⟨by rw [h.1, hap]; rfl, h.2⟩)
   have HQ : Hid (lp (stA L k) a b c d cone = gd (apX a b c d s2 s3 s4) (apY a b c d s2 s3 s4) (apZ a b c d s2 s3 s4) cone) := yz (by rw [hs]; rfl)
   have HT := yz hs
   generalize apX a b c d s2 s3 s4 = x at cA HQ
   generalize apY a b c d s2 s3 s4 = y at cA HQ
   generalize apZ a b c d s2 s3 s4 = z at cA HQ
   clear hs hsm hap
   have B1 := yz ((yy HB).alloc (yy HB).size (.cells #[.int .i64 s1, .int .i64 s2, .int .i64 s3, .int .i64 s4] 62))
   have A1 := yz ((yy HA).alloc (.cells #[.int .i64 s1, .int .i64 s2, .int .i64 s3, .int .i64 s4] 62))
   have N1 := yz (bQ wr (s1, s2, s3, s4) 62)
   have W1 := yz ((yy HW).alloc (.cells #[.int .i64 s1, .int .i64 s2, .int .i64 s3, .int .i64 s4] 62))
   obtain ⟨d0, d1, d2, d3⟩ := yy A1
   go_wp2_with fail
   clear c0 c1 c2 c3 d0 d1 d2 d3 HW HB HA
   generalize wr.alloc (.cells #[.int .i64 s1, .int .i64 s2, .int .i64 s3, .int .i64 s4] 62) = V1 at B1 A1 N1 W1 ⊢
   generalize wr.heap.size = bs at N1 ⊢
   refine (yy cA _).mono ?_
   rintro e V2 ⟨rfl, hx⟩
   have B2 := yz (ak (yy B1) hx)
   have A2 := yz ((yy A1).kept (yy A1).lt hx)
   have N2 := yz ((yy N1).kept (World.block_lt_of_cell? _ _ (yy N1).1) hx)
   have W2 := yz (jD (yy W1) hx)
   clear hx B1 A1 N1 W1 cA
   go_wp2_with fail
   refine (oJ x y z cone _).mono ?_
   rintro e V3 ⟨rfl, hx⟩
   have B3 := yz (ak (yy B2) hx)
   have A3 := yz ((yy A2).kept (yy A2).lt hx)
   have N3 := yz ((yy N2).kept (World.block_lt_of_cell? _ _ (yy N2).1) hx)
   have hown := jD (yy W2) hx
   clear hx B2 A2 N2 W2
   rw [← yy HQ]
   have hlen := gy L a b c d cone k
   cases hq : lp (stA L k) a b c d cone
   ·have HE2 : Hid (aW L a b c d cone (k + 1) = aW L a b c d cone k) := yz (by show (if _ then _ else _) = _; rw [hq]; rfl)
    have W3 := yz hown
    clear hown hq
    go_wp2_with fail
    go_roundw
    case rel => exact ⟨k + 1, by omega, by go_num, by rw [yy HE2]; exact W3, B3, A3⟩
    case measure => simp [intOf]; omega
   ·have HE2 : Hid (aW L a b c d cone (k + 1) = aW L a b c d cone k ++ [s1]) := yz (by show (if _ then _ else _) = _; rw [hq, yy HT]; rfl)
    clear hq
    obtain ⟨e0, _, _, _⟩ := yy N3
    have hsz := (yy B3).size
    have hbl : w.heap.size < V3.heap.size := (yy A3).lt
    go_wp2_with (at_builtin; refine wpList_append_own _ rfl _ _ 47 rfl (w.heap.size + 1) 2 i0 (.int .i64 0) 1 8 Tryz.underlying47 hi hz0 hz1 hz2 rfl (by decide) _ _ _ rfl (hown.alloc _) ⟨V3.heap.size, 0, none⟩ 1 1 [.int .i64 s1] rfl rfl ?c1 ?c2 ?c3 ?c4 ?c5 ?_)
    case c1 =>
     intro j x hj
     match j, hj with
     | 0, hj => simp at hj; subst hj; simp [Addr.add]
    case c2 => intro x hx; simp at hx; subst hx; rfl
    case c3 => unfold maxLen; omega
    case c4 => omega
    case c5 => simp; omega
    intro v' V4 hown' hgrow _
    have hne : some w.heap.size ≠ u7.ownBlock := fun e => by have := (hown.lt _ e.symm).1; omega
    have A4 := yz (((yy A3).alloc (.cells #[.int .i64 s1] 2)).grownW hgrow hne)
    have B4 := yz (gP (w2 := V4) ((yy B3).alloc (yy B3).size (.cells #[.int .i64 s1] 2)) (by simp; omega) (World.ownsRow_weak (hown.alloc (.cells #[.int .i64 s1] 2))) hgrow)
    have W4 : Hid (V4.ownsRow (w.heap.size + 1) 2 1 v' (aW L a b c d cone (k + 1)).length (jq (aW L a b c d cone (k + 1)))) := yz (by rw [yy HE2]; simpa [jq] using hown')
    clear hown' hown hgrow hne A3 B3 N3 e0
    go_wp2_with fail
    go_roundw
    case rel => exact ⟨k + 1, by omega, by go_num, W4, B4, A4⟩
    case measure => simp [intOf]; omega
  ·have hkn' : k = n := by omega
   subst hkn'
   go_wp2_with fail
   go_ret
   exact ⟨_, rfl, by rw [yy HV']; exact yy HW, yy HB⟩
theorem tD (t : ByteArray) (q : Nat) : (bK t q = none ∧ (dz t (ay t q false).2.1 (ay t q false).2.2).2.2 = true) ∨
  (bK t q = some (((ay t q false).1, (dz t (ay t q false).2.1 (ay t q false).2.2).1.1, (dz t (ay t q false).2.1 (ay t q false).2.2).1.2.1, (dz t (ay t q false).2.1 (ay t q false).2.2).1.2.2), (dz t (ay t q false).2.1 (ay t q false).2.2).2.1) ∧ (dz t (ay t q false).2.1 (ay t q false).2.2).2.2 = false) := by
 unfold bK
 cases h1 : bq t q with
 | none =>
  have e1 : ay t q false = (0, q, true) := by unfold ay; rw [h1]; rfl
  exact .inl ⟨rfl, by rw [e1]; rfl⟩
 | some a =>
  obtain ⟨a, p1⟩ := a
  have e1 : ay t q false = (a, p1, false) := by unfold ay; rw [h1]; rfl
  rw [e1]
  simp only [dz]
  cases h2 : bq t p1 with
  | none =>
   have e2 : ay t p1 false = (0, p1, true) := by unfold ay; rw [h2]; rfl
   exact .inl ⟨rfl, by rw [e2]; rfl⟩
  | some b =>
   obtain ⟨b, p2⟩ := b
   have e2 : ay t p1 false = (b, p2, false) := by unfold ay; rw [h2]; rfl
   rw [e2]
   simp only
   cases h3 : bq t p2 with
   | none =>
    have e3 : ay t p2 false = (0, p2, true) := by unfold ay; rw [h3]; rfl
    exact .inl ⟨rfl, by rw [e3]; rfl⟩
   | some c =>
    obtain ⟨c, p3⟩ := c
    have e3 : ay t p2 false = (c, p3, false) := by unfold ay; rw [h3]; rfl
    rw [e3]
    simp only
    cases h4 : bq t p3 with
    | none =>
     have e4 : ay t p3 false = (0, p3, true) := by unfold ay; rw [h4]; rfl
     exact .inl ⟨rfl, by rw [e4]⟩
    | some d =>
     obtain ⟨d, p4⟩ := d
     have e4 : ay t p3 false = (d, p4, false) := by unfold ay; rw [h4]; rfl
     exact .inr ⟨by rw [e4], by rw [e4]⟩
theorem sn (t : ByteArray) : ∃ (c q : Nat) (bad : Bool), gX t 0 false 12 = ((c : Int), q, bad) ∧ c ≤ 12 ∧ (bad = true → aS t = none) ∧ (bad = false → q ≤ t.size ∧ aS t = aN t q c) := by
 unfold gX aS
 cases h : bq t 0 with
 | none =>
  have e : ay t 0 false = (0, 0, true) := by unfold ay; rw [h]; rfl
  rw [e]
  exact ⟨0, 0, true, rfl, by omega, fun _ => rfl, fun h => by cases h⟩
 | some x =>
  obtain ⟨n, p⟩ := x
  have e : ay t 0 false = (n, p, false) := by unfold ay; rw [h]; rfl
  rw [e]
  simp only
  by_cases hn : n < 0 ∨ 12 < n
  ·rw [if_neg (by omega), if_pos hn]
   exact ⟨0, p, true, rfl, by omega, fun _ => rfl, fun h => by cases h⟩
  ·rw [if_pos (by omega), if_neg hn]
   refine ⟨n.toNat, p, false, by rw [Int.toNat_of_nonneg (by omega)], by omega, fun h => ?_, fun _ => ⟨(bg h).2, rfl⟩⟩
   cases h
theorem sJ {t : ByteArray} {q : Nat} {bad : Bool} (ht : t.size ≤ 8000) (hq : q ≤ 8000) : (dz t q bad).2.1 ≤ 8000 :=
 eE ht (eE ht (eE ht hq))
theorem rz {t : ByteArray} {q : Nat} {bad : Bool} {most : Int} (ht : t.size ≤ 8000) (hq : q ≤ 8000) : (gX t q bad most).2.1 ≤ 8000 := by
 unfold gX
 split
 ·exact eE ht hq
 ·exact eE ht hq
theorem lU {w wr w1 : World} {rb : Nat} (h : Below w.heap.size w wr) (hg : wr.grownBy w1 (some rb)) (hr : w.heap.size ≤ rb) : Below w.heap.size w w1 :=
 h.trans ⟨hg.os, hg.tape, hg.output, hg.size, fun k hk => hg.block k (Nat.lt_of_lt_of_le hk h.size) (fun e => by have := Option.some.inj e; omega)⟩
theorem th {w w1 : World} {B rb : Nat} {t : TypeId} {v : Value} {n m : Nat} {xs : List Value} (h : w.ownsRow B t m v n xs) (hg : w.grownBy w1 (some rb)) (hr : rb < B) : w1.ownsRow B t m v n xs :=
 h.kept hg (by
  cases hv : v.ownBlock with
  | none => exact .inl rfl
  | some k => exact .inr (fun e => by have := (h.lt k hv).1; have := Option.some.inj e; omega))
theorem fh.grown {w w' : World} {b : Nat} {v : Value} {c : Int} {row : Option Nat} (h : fh w b v c) (hg : w.grownBy w' row) (hne : some b ≠ row) : fh w' b v c := ⟨hg.cell h.1 hne, hg.cell h.2 hne⟩
theorem iO.grown {w w' : World} {b : Nat} {row : Option Nat} (h : iO w b) (hb : b < w.heap.size) (hg : w.grownBy w' row) (hne : some b ≠ row) : iO w' b := by
 have e := hg.block b hb hne
 exact ⟨by rw [World.frozen?_of_block (w := w) e]; exact h.1, by rw [World.frozen?_of_block (w := w) e]; exact h.2⟩
theorem rK (w : World) (t : ByteArray) (ty : TypeId) : dl (w.alloc (.cells #[.string t, .int .i64 0, .bool false] ty)) w.heap.size t 0 false := by
 refine ⟨?_, ?_, ?_, ?_, ?_⟩ <;> simp
theorem ti (w : World) (o : Obj) (t : ByteArray) (ty : TypeId) (o2 : Obj) : dl (((w.alloc o).alloc (.cells #[.string t, .int .i64 0, .bool false] ty)).alloc o2) (w.heap.size + 1) t 0 false := by
 have h : (w.alloc o).heap.size = w.heap.size + 1 := by simp
 rw [← h]
 exact (rK _ t ty).kept (am _ o2)
theorem rJ (w : World) (o o2 : Obj) (ty : TypeId) : (((w.alloc o).alloc o2).alloc (.cells #[] ty)).ownsRow (w.heap.size + 1 + 1) ty 4 (.slice (some ⟨w.heap.size + 1 + 1, 0, none⟩) 0 0) 0 [] := by
 have h : ((w.alloc o).alloc o2).heap.size = w.heap.size + 1 + 1 := by simp
 rw [← h]
 exact ⟨rfl, .inr ⟨_, 0, #[], rfl, Nat.le_refl _, Array.getElem?_push_size, Nat.le_refl _, Nat.zero_le _, rfl, rfl⟩⟩
theorem sg {w W : World} (h : Below w.heap.size w W) (o o2 : Obj) : Below w.heap.size w ((W.alloc o).alloc o2) :=
 (h.alloc h.size o).alloc (h.alloc h.size o).size o2
theorem tn {t : ByteArray} {p c j q q2 : Nat} {L : List St} {x : St} {b : Bool} (hj : j < c) (ht : aN t p j = some (L, q)) (hA : aS t = aN t p c)
  (h : (bK t q = none ∧ b = true) ∨ (bK t q = some (x, q2) ∧ b = false)) :
  (b = true → aS t = none) ∧ (b = false → q2 ≤ t.size ∧ aN t p (j + 1) = some (L ++ [x], q2) ∧ aS t = aN t p c) := by
 rcases h with ⟨h, rfl⟩ | ⟨h, rfl⟩
 ·have e : aN t p (j + 1) = none := by unfold aN; rw [ht]; simp only [h]
  exact ⟨fun _ => by rw [hA, jc e hj], fun h => by cases h⟩
 ·have e : aN t p (j + 1) = some (L ++ [x], q2) := by unfold aN; rw [ht]; simp only [h]
  exact ⟨fun h => (by cases h), fun _ => ⟨(kr h).2, e, hA⟩⟩
theorem jv (s : ByteArray) (w : World) (hs : s.size ≤ 1048576)
  (hM : ∀ L q, unC s = 0 → aS (unT s) = some (L, q) → (dO L = s ↔ q = (unT s).size ∧ aB L = true)) :
  Calls Tryz.prog 15 #[.string s] w fun e w' => mo (w.heap.size + 1) (eo s) e w' ∧ Below w.heap.size w w' := by
 obtain ⟨i0, hi, hz0, hz1, hz2⟩ := info_parts iA
 have B0 := yz (am w (.cells #[.slice none 0 0, .int .i64 0] 28))
 have R0 := yz (km w (.slice none 0 0) 0 28)
 have F0 := yz (ls w (.slice none 0 0) 0 28)
 have HRL : Hid (eo s = if unC s = 0 then (match bE (unT s) with | none => .error 3 | some L => .ok L) else .error (unC s)) := yz rfl
 have HZ : Hid (unC s = 0 → (unT s).size ≤ 8000 ∧ (unT s).size + 4 = s.size) := yz kL
 have HM := yz hM
 clear hM
 have cU := yz (fun W => fz s W hs)
 generalize unC s = uc at *
 generalize unT s = ut at *
 go_enter Tryz.func15, Tryz.ntmps15
 go_wp2_with fail
 refine (yy cU _).mono ?_
 rintro e w1 ⟨rfl, hx⟩
 have B1 := yz ((ak (yy B0) hx).alloc (ak (yy B0) hx).size (.cells #[.string ut, .int .i64 0, .int .i64 uc] 68))
 have R1 := yz (((yy R0).kept hx).kept (am w1 (.cells #[.string ut, .int .i64 0, .int .i64 uc] 68)))
 have F1 := yz (((yy F0).kept (by simp) hx).kept (World.block_lt_of_cell? _ _ ((yy R0).kept hx).1) (am w1 (.cells #[.string ut, .int .i64 0, .int .i64 uc] 68)))
 have hlt : w.heap.size < w1.heap.size := by have := hx.size; simp at this; omega
 clear hx B0 R0 F0 cU
 obtain ⟨r0, r1⟩ := yy R1
 obtain ⟨f0, f1⟩ := yy F1
 by_cases hu : uc = 0
 ·subst hu
  have hz := yy HZ rfl
  rw [if_pos rfl] at HRL
  clear r0 r1 f0 f1
  go_wp2_with fail
  refine (rA (w1.heap.size + 1) ut 0 false 12 _ hz.1 (by omega) (ti _ _ _ _ _)).mono ?_
  rintro e w2 ⟨rfl, hr, hg⟩
  obtain ⟨c, q0, bad0, hm, hc12, hbad, hok⟩ := sn ut
  rw [hm] at hr ⊢
  have hq0 : q0 ≤ 8000 := by have := rz (t := ut) (q := 0) (bad := false) (most := 12) hz.1 (by omega); rw [hm] at this; exact this
  have B2 := yz (lU (sg (yy B1) _ _) hg (by omega))
  have W2 := yz (th (rJ _ _ _ _) hg (by omega))
  have R2 := yz ((((yy R1).kept (am _ _)).kept (am _ _)).grown hg (by simp; omega))
  have F2 := yz ((((yy F1).kept (by simp; omega) (am _ _)).kept (by simp; omega) (am _ _)).grown (by simp; omega) hg (by simp; omega))
  have D2 : Hid (dl w2 (w1.heap.size + 1) ut q0 bad0) := yz hr
  have HI : Hid ((bad0 = true → aS ut = none) ∧ (bad0 = false → q0 ≤ ut.size ∧ aN ut q0 0 = some ([], q0) ∧ aS ut = aN ut q0 c)) := yz (And.intro hbad (fun h => And.intro (hok h).1 (And.intro rfl (hok h).2)))
  clear hr hg hbad hok hm B1 R1 F1
  have hrb : w.heap.size < w1.heap.size + 1 := by omega
  generalize w1.heap.size + 1 = rb at *
  go_wp2_with fail
  go_loopw [5, 6] (fun v i wr => ∃ (m j : Nat) (L : List St) (q : Nat) (bad : Bool), m + j = c ∧ i = .int .i64 (m : Int) ∧ q ≤ 8000 ∧ Hid (L.length = j) ∧ Hid ((bad = true → aS ut = none) ∧ (bad = false → q ≤ ut.size ∧ aN ut q0 j = some (L, q) ∧ aS ut = aN ut q0 c)) ∧ Hid (wr.ownsRow (rb + 1) 62 4 v L.length (aE L)) ∧ Hid (dl wr rb ut q bad) ∧ Hid (Below w.heap.size w wr) ∧ Hid (fh wr w.heap.size (.slice none 0 0) 0) ∧ Hid (iO wr w.heap.size)) (fun _ i _ => (intOf i).toNat)
  case atStart => exact ⟨c, 0, [], q0, bad0, by omega, rfl, hq0, yz rfl, HI, W2, D2, B2, R2, F2⟩
  case round =>
   obtain ⟨m, j, L, q, bad, hmj, rfl, hq, HL, HI, HW, HD, HB, HR, HF⟩ := hrel
   have hLb : L.length ≤ 12 := by have := yy HL; omega
   obtain ⟨d0, d1, d2, g1, g2⟩ := yy HD
   cases bad
   ·obtain ⟨hqs, hrt, hra⟩ := (yy HI).2 rfl
    by_cases hm0 : 0 < m
    ·obtain ⟨m', rfl⟩ : ∃ m', m = m' + 1 := ⟨m - 1, by omega⟩
     have hg0 : (0 : Int) < ((m' + 1 : Nat) : Int) := by omega
     have HN := yz (fun (n : Int) (x y z : Int) (q2 : Nat) (b : Bool) h => tn (x := (n, x, y, z)) (q2 := q2) (b := b) (show j < c by omega) hrt hra h)
     have H4 := yz (tD ut q)
     have cN := yz (gY rb ut q false wr hz.1 hq (yy HD))
     have l1 := eE (bad := false) hz.1 hq
     have cV := yz (fun (W : World) hW => qx rb ut (ay ut q false).2.1 (ay ut q false).2.2 W hz.1 l1 hW)
     have l2 := sJ (bad := (ay ut q false).2.2) hz.1 l1
     clear hqs hrt hra
     generalize dz ut (ay ut q false).2.1 (ay ut q false).2.2 = vv at *
     generalize ay ut q false = nn at *
     obtain ⟨n, q1, b1⟩ := nn
     obtain ⟨⟨x, y, z⟩, q2, b2⟩ := vv
     go_wp2_with fail
     refine (yy cN).mono ?_
     rintro e w3 ⟨rfl, hr, hg⟩
     have hbr : w.heap.size < wr.heap.size := World.block_lt_of_cell? _ _ (yy HR).1
     have B3 := yz (lU (yy HB) hg (by omega))
     have W3 := yz (th (yy HW) hg (by omega))
     have R3 := yz ((yy HR).grown hg (by simp; omega))
     have F3 := yz ((yy HF).grown hbr hg (by simp; omega))
     have D3 : Hid (dl w3 rb ut q1 b1) := yz hr
     clear hr hg cN hbr HB HW HR HF HD d0 d1 d2 g1 g2
     go_wp2_with fail
     refine (yy cV _ (yy D3)).mono ?_
     rintro e w4 ⟨rfl, hr, hg⟩
     have hbr : w.heap.size < w3.heap.size := World.block_lt_of_cell? _ _ (yy R3).1
     have B4 := yz (lU (yy B3) hg (by omega))
     have W4 := yz (th (yy W3) hg (by omega))
     have R4 := yz ((yy R3).grown hg (by simp; omega))
     have F4 := yz ((yy F3).grown hbr hg (by simp; omega))
     have D4 : Hid (dl w4 rb ut q2 b2) := yz hr
     have hb4 : w.heap.size < w4.heap.size := World.block_lt_of_cell? _ _ (yy R4).1
     have hs4 := (yy B4).size
     have hrb4 : rb < w4.heap.size := (yy D4).lt
     clear hr hg cV hbr B3 W3 R3 F3 D3
     have hown := yy W4
     go_wp2_with (at_builtin; refine wpList_append_own _ rfl _ _ 23 rfl (rb + 1) 62 i0 (.agg #[.int .i64 0, .int .i64 0, .int .i64 0, .int .i64 0]) 4 32 Tryz.underlying23 hi hz0 hz1 hz2 rfl (by decide) _ _ _ rfl (hown.alloc _) ⟨w4.heap.size, 0, none⟩ 1 1 [.int .i64 n, .int .i64 x, .int .i64 y, .int .i64 z] rfl rfl ?c1 ?c2 ?c3 ?c4 ?c5 ?_)
     case c1 => exact jR w4 n x y z 62
     case c2 => intro u hu; simp at hu; rcases hu with rfl | rfl | rfl | rfl <;> rfl
     case c3 => unfold maxLen; omega
     case c4 => omega
     case c5 => simp; omega
     intro v' V4 hown' hgrow _
     have Z4 := am w4 (.cells #[.int .i64 n, .int .i64 x, .int .i64 y, .int .i64 z] 62)
     have ho4 := hH hown Z4
     have hz4 : w.heap.size ≤ (w4.alloc (.cells #[.int .i64 n, .int .i64 x, .int .i64 y, .int .i64 z] 62)).heap.size := by simp; omega
     have B5 := yz (ly (ak (yy B4) Z4) (eI ho4 (show w.heap.size ≤ rb + 1 by omega)) hgrow hz4)
     have W5 : Hid (V4.ownsRow (rb + 1) 62 4 v' (L ++ [(n, x, y, z)]).length (aE (L ++ [(n, x, y, z)]))) := yz (by rw [gM]; simpa [stC] using hown')
     have nb : ∀ k, k < rb + 1 → some k ≠ Value.ownBlock u5 := fun k hk e => by have := (hown.lt k e.symm).1; omega
     have D5 := yz (((yy D4).kept Z4).grown hgrow (nb rb (by omega)))
     have R5 := yz (((yy R4).kept Z4).grown hgrow (nb _ (by omega)))
     have F5 := yz (((yy F4).kept hb4 Z4).grown (by simp; omega) hgrow (nb _ (by omega)))
     clear hown' hown hgrow Z4 ho4 hz4 B4 W4 R4 F4 D4 nb
     go_wp2_with fail
     go_roundw
     case rel => exact ⟨m', j + 1, _, q2, b2, by omega, by go_num, l2, yz (by simp [yy HL]), yz (yy HN n x y z q2 b2 (yy H4)), W5, D5, B5, R5, F5⟩
     case measure => simp [intOf]
    ·obtain rfl : m = 0 := by omega
     obtain rfl : j = c := by omega
     have hA : aS ut = some (L, q) := hra.trans hrt
     have HG : Hid (bE ut = if q = ut.size ∧ aB L = true then some L else none) := yz (by unfold bE; rw [hA])
     have HQ := yz (yy HM L q (by first | trivial | rfl) hA)
     obtain ⟨ar, cap, hv, hlc, hcm, hst⟩ := eP (yy HW)
     have HST := yz hst
     have cS := yz (fun W hW => dE L ar cap W (by omega) hW)
     have HW2 := HW
     rw [hv] at HW2 ⊢
     generalize dO L = bs at *
     clear hst hv HW hA hra hrt hqs HM
     go_wp2_with fail
     refine (yy cS _ (yy HST)).mono ?_
     rintro e w3 ⟨rfl, hx⟩
     have hbr : w.heap.size < wr.heap.size := World.block_lt_of_cell? _ _ (yy HR).1
     have B3 := yz (ak (yy HB) hx)
     have W3 := yz (eI (B' := w.heap.size + 1) (hH (yy HW2) hx) (by omega))
     obtain ⟨r0, r1⟩ := (yy HR).kept hx
     obtain ⟨f0, f1⟩ := (yy HF).kept hbr hx
     clear hx HB HW2 HST cS HR HF HD d0 d1 d2 g1 g2
     by_cases hbs : bs = s
     ·rw [if_pos ((yy HQ).1 hbs)] at HG
      rw [yy HG] at HRL
      subst hbs
      clear HQ HG
      go_wp2_with fail
      exact bodyPost_ret (v := .agg #[.slice ar L.length cap, .int .i64 0]) (by simp [results, Tryz.results15, go_sem, r0, r1]) rfl ⟨by rw [yy HRL]; exact ⟨_, rfl, mq (mq (yy W3) (by omega)) (by omega)⟩, ((yy B3).setCell (Nat.le_refl _) _).setCell (Nat.le_refl _) _⟩
     ·rw [if_neg (fun h => hbs ((yy HQ).2 h))] at HG
      rw [yy HG] at HRL
      have hbs1 := pi hbs
      clear HQ HG
      go_wp2_with fail
      exact bodyPost_ret (v := .agg #[.slice none 0 0, .int .i64 3]) (by simp [results, Tryz.results15, go_sem, r0, r1]) rfl ⟨by rw [yy HRL]; exact rfl, ((yy B3).setCell (Nat.le_refl _) _).setCell (Nat.le_refl _) _⟩
   ·have HG : Hid (bE ut = none) := yz (by unfold bE; rw [(yy HI).1 rfl])
    rw [yy HG] at HRL
    obtain ⟨r0, r1⟩ := yy HR
    obtain ⟨f0, f1⟩ := yy HF
    by_cases hm0 : 0 < m
    ·have hg0 : (0 : Int) < (m : Int) := by omega
     go_wp2_with fail
     exact bodyPost_ret (v := .agg #[.slice none 0 0, .int .i64 3]) (by simp [results, Tryz.results15, go_sem, r0, r1]) rfl ⟨by rw [yy HRL]; exact rfl, ((yy HB).setCell (Nat.le_refl _) _).setCell (Nat.le_refl _) _⟩
    ·obtain rfl : m = 0 := by omega
     go_wp2_with fail
     exact bodyPost_ret (v := .agg #[.slice none 0 0, .int .i64 3]) (by simp [results, Tryz.results15, go_sem, r0, r1]) rfl ⟨by rw [yy HRL]; exact rfl, ((yy HB).setCell (Nat.le_refl _) _).setCell (Nat.le_refl _) _⟩
 ·clear hlt
  have hu' : (uc == 0) = false := by simp [hu]
  have hu2 : (uc != 0) = true := by simp [hu]
  rw [if_neg hu] at HRL
  go_wp2_with fail
  exact bodyPost_ret (v := .agg #[.slice none 0 0, .int .i64 uc]) (by simp [results, Tryz.results15, go_sem, r0, r1]) rfl ⟨by rw [yy HRL]; exact rfl, ((yy B1).setCell (Nat.le_refl _) _).setCell (Nat.le_refl _) _⟩
end
section
open Go.RowKit
theorem rY (n : Int) : unf (bA n) = n := by
 unfold unf bA
 split <;> split <;> omega
theorem qZ : ∀ (k i v : Nat), i + k = 9 → v ≤ lim i → ∀ b ∈ enc k v, b < 256
 | 0, i, v, hi, hv, b, hb => by
  obtain rfl : i = 9 := by omega
  rw [su] at hv
  simp [enc] at hb
  omega
 | k + 1, i, v, hi, hv, b, hb => by
  by_cases h : v < 128
  ·rw [dB _ _ h] at hb
   simp at hb
   omega
  ·rw [fm _ _ h] at hb
   rcases List.mem_cons.mp hb with rfl | hb
   ·omega
   ·exact qZ k (i + 1) (v / 128) (by omega) (gV hv) b hb
theorem glue (v i : Nat) : v % 128 * 2 ^ (7 * i) + v / 128 * 2 ^ (7 * (i + 1)) = v * 2 ^ (7 * i) := by
 rw [show 7 * (i + 1) = 7 + 7 * i by omega, Nat.pow_add, ← Nat.mul_assoc, ← Nat.add_mul]
 congr 1
 omega
theorem nQ (s : ByteArray) (p : Nat) : ∀ (k i u v : Nat), i + k = 9 → v ≤ lim i → (i = 0 ∨ 0 < v) → (∀ j, j < (enc k v).length → p + i + j < s.size ∧ bD s (p + i + j) = (enc k v).getD j 0) →
  bi s p (k + 1) i u = .ok (u + v * 2 ^ (7 * i), p + i + (enc k v).length)
 | 0, i, u, v, hi, hv, h0, hb => by
  obtain rfl : i = 9 := by omega
  rw [su] at hv
  have h := hb 0 (by simp [enc])
  simp [enc] at h
  have hv0 : 0 < v := by omega
  rw [bi, if_neg (by omega), h.2, if_neg (by omega), if_pos (by omega), if_neg (by omega), Nat.mod_eq_of_lt (by omega)]
  simp [enc]
 | k + 1, i, u, v, hi, hv, h0, hb => by
  by_cases h : v < 128
  ·rw [dB _ _ h] at hb ⊢
   have h' := hb 0 (by simp)
   simp at h'
   rw [bi, if_neg (by omega), h'.2, if_neg (by omega), if_pos h, if_neg (by omega), Nat.mod_eq_of_lt h]
   simp
  ·rw [fm _ _ h] at hb ⊢
   have h' := hb 0 (by simp)
   simp at h'
   rw [bi, if_neg (by omega), h'.2, if_neg (by omega), if_neg (by omega)]
   have hr := nQ s p k (i + 1) (u + (v % 128 + 128) % 128 * 2 ^ (7 * i)) (v / 128) (by omega) (gV hv) (.inr (by omega)) (fun j hj => by
    have := hb (j + 1) (by simp; omega)
    simp at this
    rw [show p + (i + 1) + j = p + i + (j + 1) by omega]
    simpa using this)
   rw [hr, show (v % 128 + 128) % 128 = v % 128 by omega]
   simp only [List.length_cons]
   rw [Nat.add_assoc u, glue, show p + (i + 1) + (enc k (v / 128)).length = p + i + ((enc k (v / 128)).length + 1) by omega]
theorem qS {s : ByteArray} {k : Nat} {b : UInt8} (h : s.data.toList[k]? = some b) : k < s.size ∧ bD s k = b.toNat := by
 have hk : k < s.size := by
  have := List.getElem?_eq_some_iff.mp h
  obtain ⟨hk, _⟩ := this
  simpa using hk
 refine ⟨hk, ?_⟩
 rw [bY hk]
 rw [Array.getElem?_toList] at h
 have : s.data[k]? = some s[k] := Array.getElem?_eq_getElem hk
 rw [this] at h
 rw [Option.some.inj h]
theorem nD (n : Int) : (ba n).size = (enc 9 (bA n)).length := by simp only [ba, strOfNums_size, List.length_map]
theorem sv (n : Int) (h0 : -9223372036854775808 ≤ n) (h1 : n ≤ 9223372036854775807) (j : Nat) (hj : j < (enc 9 (bA n)).length) :
  ∃ b : UInt8, (ba n).data.toList[j]? = some b ∧ b.toNat = (enc 9 (bA n)).getD j 0 := by
 refine ⟨UInt8.ofNat ((enc 9 (bA n))[j]), ?_, ?_⟩
 ·rw [ba, strOfNums_data]
  simp [hj]
 ·have hm := qZ 9 0 (bA n) (by omega) (by have := jz n h0 h1; simpa [lim] using this) _ (List.getElem_mem hj)
  rw [List.getD, List.getElem?_eq_getElem hj]
  simp
  omega
theorem iK (s : ByteArray) : s.data.toList.length = s.size := by simp
theorem qB (a b : ByteArray) (n : Int) (h0 : -9223372036854775808 ≤ n) (h1 : n ≤ 9223372036854775807) (s : ByteArray) (hs : s.data.toList = a.data.toList ++ ((ba n).data.toList ++ b.data.toList)) :
  bi s a.size 10 0 0 = .ok (bA n, a.size + (ba n).size) := by
 have h := nQ s a.size 9 0 0 (bA n) (by omega) (by have := jz n h0 h1; simpa [lim] using this) (.inl rfl) (fun j hj => by
  obtain ⟨x, hx, hxe⟩ := sv n h0 h1 j hj
  have hg : s.data.toList[a.size + 0 + j]? = some x := by
   rw [hs, List.getElem?_append_right (by rw [iK]; omega), iK, show a.size + 0 + j - a.size = j by omega, List.getElem?_append_left (by rw [iK, nD]; exact hj), hx]
  have := qS hg
  rw [hxe] at this
  exact this)
 rw [h, nD]
 simp
end
end Go.Proofs.YthoiooefclbecaaGreatDoor
