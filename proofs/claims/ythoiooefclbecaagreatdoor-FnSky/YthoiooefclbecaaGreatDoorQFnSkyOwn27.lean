/- Several texts in one: ReadC. -/
import Derived.Test.YthoiooefclbecaaGreatDoorQFnSkyOwn26
namespace Go.Proofs.YthoiooefclbecaaGreatDoor
set_option linter.unusedVariables false
set_option linter.unusedSimpArgs false
set_option maxRecDepth 100000
set_option maxHeartbeats 8000000
section
open Go.RowKit
def bE (s : ByteArray) : Option (List St) := match aS s with
 | none => none
 | some (L, q) => if q = s.size ∧ aB L = true then some L else none
def tj (B : Nat) (r : Option (List St)) (e : Ending) (w' : World) : Prop := match r with
 | none => ∃ v why, e = .returned (.tuple #[v, aY why])
 | some L => ∃ v, e = .returned (.tuple #[v, .nilIface]) ∧ w'.ownsRow B 62 4 v L.length (aE L)
theorem gM (L : List St) (x : St) : aE (L ++ [x]) = aE L ++ stC x := by
 unfold aE
 rw [List.flatMap_append]
 simp [List.flatMap_cons]
theorem jR (w : World) (s1 s2 s3 s4 : Int) (t : TypeId) : ∀ (j : Nat) (u : Value), [Value.int .i64 s1, Value.int .i64 s2, Value.int .i64 s3, Value.int .i64 s4][j]? = some u → (w.alloc (.cells #[.int .i64 s1, .int .i64 s2, .int .i64 s3, .int .i64 s4] t)).cell? ((⟨w.heap.size, 0, none⟩ : Addr).add j) = some u := by
 intro j u hj
 match j, hj with
 | 0, hj => simp at hj; subst hj; simp [Addr.add]
 | 1, hj => simp at hj; subst hj; simp [Addr.add]
 | 2, hj => simp at hj; subst hj; simp [Addr.add]
 | 3, hj => simp at hj; subst hj; simp [Addr.add]
 | j + 4, hj => simp at hj
theorem hH {w w' : World} {B : Nat} {t : TypeId} {v : Value} {n m : Nat} {xs : List Value} (h : w.ownsRow B t m v n xs) (hB : Below w.heap.size w w') : w'.ownsRow B t m v n xs :=
 h.kept (row := none) ⟨hB.os, hB.tape, hB.output, hB.size, fun k hk _ => hB.block k hk⟩ (by cases hv : v.ownBlock <;> simp)
theorem ly {B : Nat} {w w1 w2 : World} {v : Value} {t : TypeId} {n m : Nat} {xs : List Value} (h : Below B w w1) (ho : w1.ownsRow B t m v n xs) (hg : w1.grownBy w2 v.ownBlock) (hB : B ≤ w1.heap.size) : Below B w w2 :=
 h.trans ⟨hg.os, hg.tape, hg.output, hg.size, fun k hk => hg.block k (by omega) (fun e => by have := (ho.lt k e.symm).1; omega)⟩
theorem nJ (s : ByteArray) (w : World) (hs : s.size ≤ 8000) :
  Calls Tryz.prog 41 #[.string s] w fun e w' => tj w.heap.size (bE s) e w' ∧ Below w.heap.size w w' := by
 have mE := iY
 obtain ⟨i0, hi, hz0, hz1, hz2⟩ := info_parts iA
 go_enter Tryz.func41, Tryz.ntmps41
 go_wp2_with fail
 refine (dL s 0 _ hs (by omega)).mono ?_
 rintro e w1 ⟨rfl, hw⟩
 rw [hw]
 clear hw w1
 cases h0 : bq s 0 with
 | none =>
  obtain ⟨c, hc⟩ := fq h0
  rw [hc]
  have HO : Hid (bE s = none) := yz (by unfold bE aS; simp only [h0])
  clear hc h0
  go_wp2_with fail
  refine (cF c _).mono ?_
  rintro e wz ⟨⟨t, rfl⟩, hx⟩
  go_wp2_with fail
  go_ret2
  exact ⟨by rw [yy HO]; exact ⟨_, t, rfl⟩, hx⟩
 | some x0 =>
  obtain ⟨n, p⟩ := x0
  rw [fs h0]
  have l0 := bg h0
  by_cases hn0 : n < 0
  ·have HO : Hid (bE s = none) := yz (by unfold bE aS; simp only [h0]; rw [if_pos (.inl hn0)])
   clear h0
   go_wp2_with fail
   go_ret2
   exact ⟨by rw [yy HO]; exact ⟨_, _, rfl⟩, Below.refl _ _⟩
  by_cases hn1 : 12 < n
  ·have HO : Hid (bE s = none) := yz (by unfold bE aS; simp only [h0]; rw [if_pos (.inr hn1)])
   have hn0' : decide (n < 0) = false := by simpa using hn0
   clear h0
   go_wp2_with fail
   go_ret2
   exact ⟨by rw [yy HO]; exact ⟨_, _, rfl⟩, Below.refl _ _⟩
  obtain ⟨c, rfl⟩ : ∃ c : Nat, n = (c : Int) := ⟨n.toNat, by omega⟩
  have HR : Hid (aS s = aN s p c) := yz (by unfold aS; simp only [h0]; rw [if_neg (by omega)]; rfl)
  have hn0' : decide ((c : Int) < 0) = false := by simp
  clear h0
  go_wp2_with fail
  clear hn0' hn0 hn1
  have hc12 : c ≤ 12 := by omega
  go_loopw [5, 7, 32] (fun t v i wr => ∃ (k : Nat) (L : List St) (q : Nat), k ≤ c ∧ i = .int .i64 k ∧ t = .int .i64 (q : Int) ∧ Hid (aN s p k = some (L, q)) ∧ Hid (wr.ownsRow w.heap.size 62 4 v L.length (aE L)) ∧ Hid (Below w.heap.size w wr)) (fun _ _ i _ => c - (intOf i).toNat)
  case atStart => exact ⟨0, [], p, by omega, rfl, rfl, yz rfl, yz (World.ownsRow_nil _ _ _ _), yz (Below.refl _ _)⟩
  case round =>
   obtain ⟨k, L, q, hk, rfl, rfl, HT, HW, HB⟩ := hrel
   have hqs := (fM (by omega) k (yy HT)).1
   have hlb : L.length ≤ 12 := by have := (fM (by omega) k (yy HT)).2; omega
   by_cases hkn : k < c
   ·have hkn2 : (k : Int) < (c : Int) := by omega
    go_wp2_with fail
    refine (mu s q _ hs (by omega)).mono ?_
    rintro e w1 ⟨hres, hx⟩
    have B1 := yz (ak (yy HB) hx)
    have W1 := yz (hH (yy HW) hx)
    clear hx HB HW
    cases hr : bK s q with
    | none =>
     rw [hr] at hres
     obtain ⟨why, rfl⟩ := hres
     have HO : Hid (bE s = none) := yz (by
      have e : aN s p (k + 1) = none := by unfold aN; rw [yy HT]; simp only [hr]
      unfold bE
      rw [yy HR, jc e hkn])
     clear hr
     unfold eH aY
     go_wp2_with fail
     go_ret2
     exact ⟨by rw [yy HO]; exact ⟨_, why, rfl⟩, (yy B1).alloc (yy B1).size _⟩
    | some y =>
     obtain ⟨⟨s1, s2, s3, s4⟩, q'⟩ := y
     rw [hr] at hres
     obtain rfl := hres
     have HT2 : Hid (aN s p (k + 1) = some (L ++ [(s1, s2, s3, s4)], q')) := yz (by unfold aN; rw [yy HT]; simp only [hr])
     clear hr
     have B2 := yz ((yy B1).alloc (yy B1).size (.cells #[.int .i64 s1, .int .i64 s2, .int .i64 s3, .int .i64 s4] 62))
     have W2 := yz ((yy W1).alloc (.cells #[.int .i64 s1, .int .i64 s2, .int .i64 s3, .int .i64 s4] 62))
     have N2 := yz (bQ w1 (s1, s2, s3, s4) 62)
     have hsz := (yy B1).size
     unfold eH
     clear B1 W1
     have hown := yy W2
     go_wp2_with (at_builtin; refine wpList_append_own _ rfl _ _ 23 rfl w.heap.size 62 i0 (.agg #[.int .i64 0, .int .i64 0, .int .i64 0, .int .i64 0]) 4 32 Tryz.underlying23 hi hz0 hz1 hz2 rfl (by decide) _ _ _ rfl (hown.alloc _) ⟨w1.heap.size + 1, 0, none⟩ 1 1 [.int .i64 s1, .int .i64 s2, .int .i64 s3, .int .i64 s4] rfl rfl ?c1 ?c2 ?c3 ?c4 ?c5 ?_)
     case c1 =>
      have h := jR (w1.alloc (.cells #[.int .i64 s1, .int .i64 s2, .int .i64 s3, .int .i64 s4] 62)) s1 s2 s3 s4 62
      simpa using h
     case c2 => intro u hu; simp at hu; rcases hu with rfl | rfl | rfl | rfl <;> rfl
     case c3 => unfold maxLen; omega
     case c4 => omega
     case c5 => simp; omega
     intro v' V4 hown' hgrow _
     have hz : w.heap.size ≤ ((w1.alloc (.cells #[.int .i64 s1, .int .i64 s2, .int .i64 s3, .int .i64 s4] 62)).alloc (.cells #[.int .i64 s1, .int .i64 s2, .int .i64 s3, .int .i64 s4] 62)).heap.size := by simp; omega
     have B4 := yz (ly ((yy B2).alloc (yy B2).size (.cells #[.int .i64 s1, .int .i64 s2, .int .i64 s3, .int .i64 s4] 62)) (hown.alloc (.cells #[.int .i64 s1, .int .i64 s2, .int .i64 s3, .int .i64 s4] 62)) hgrow hz)
     have W4 : Hid (V4.ownsRow w.heap.size 62 4 v' (L ++ [(s1, s2, s3, s4)]).length (aE (L ++ [(s1, s2, s3, s4)]))) := yz (by rw [gM]; simpa [stC] using hown')
     clear hown' hown hgrow hz B2 W2 N2
     go_wp2_with fail
     go_roundw
     case rel => exact ⟨k + 1, _, q', by omega, by go_num, rfl, HT2, W4, B4⟩
     case measure => simp [intOf]; omega
   ·have hkn' : k = c := by omega
    subst hkn'
    have HRL : Hid (aS s = some (L, q)) := yz (by rw [yy HR]; exact yy HT)
    by_cases hq : q = s.size
    ·have hq' : ((q : Int) == (s.size : Int)) = true := by simp [hq]
     obtain ⟨ar, cap, hv, hlc, hcm, hst⟩ := eP (yy HW)
     have hm9 : maxLen ≤ 9223372036854775807 := by decide +kernel
     have HST := yz hst
     have cW := yz (fun W hW => fd L ar cap W (by omega) hlc (by omega) hW)
     have HW2 := HW
     rw [hv] at HW2 ⊢
     clear hst hv HW
     go_wp2_with fail
     refine (yy cW _ (yy HST)).mono ?_
     rintro e w2 ⟨rfl, hx⟩
     have B2 := yz (ak (yy HB) hx)
     have W2 := yz (hH (yy HW2) hx)
     clear hx HB HW2 HST cW
     cases hsk : aB L
     ·obtain ⟨why, hwhy⟩ := lP hsk
      have HO : Hid (bE s = none) := yz (by unfold bE; rw [yy HRL]; simp [hsk])
      rw [hwhy]
      go_wp2_with fail
      go_ret2
      exact ⟨by rw [yy HO]; exact ⟨_, why, rfl⟩, yy B2⟩
     ·have HO : Hid (bE s = some L) := yz (by unfold bE; rw [yy HRL]; simp [hsk, hq])
      rw [kN hsk]
      go_wp2_with fail
      go_ret2
      exact ⟨by rw [yy HO]; exact ⟨_, rfl, yy W2⟩, yy B2⟩
    ·have hq' : ((q : Int) == (s.size : Int)) = false := by simp; omega
     have HO : Hid (bE s = none) := yz (by unfold bE; rw [yy HRL]; simp [hq])
     go_wp2_with fail
     go_ret2
     exact ⟨by rw [yy HO]; exact ⟨_, _, rfl⟩, yy HB⟩
end
end Go.Proofs.YthoiooefclbecaaGreatDoor
