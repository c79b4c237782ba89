/- Several texts in one: TunM, SyM. -/
import Derived.Test.YthoiooefclbecaaGreatDoorQFnSkyOwn19
import Derived.Test.YthoiooefclbecaaGreatDoorQFnSkyOwn34
import Derived.Test.YthoiooefclbecaaGreatDoorQFnSkyOwn30
import Derived.Test.YthoiooefclbecaaGreatDoorQFnSkyOwn28
import Derived.Test.YthoiooefclbecaaGreatDoorQFnSkyOwn20
import Derived.Test.YthoiooefclbecaaGreatDoorQFnSkyOwn32
namespace Go.Proofs.YthoiooefclbecaaGreatDoor
set_option linter.unusedVariables false
set_option linter.unusedSimpArgs false
set_option maxRecDepth 100000
set_option maxHeartbeats 8000000
section
open Go.RowKit
def tm (n : Nat) : Nat → Nat
 | 0 => 0
 | i + 1 => tm n i + (n - (i + 1))
theorem mI (L : List St) : ∀ i, (dG L i).length = tm L.length i
 | 0 => rfl
 | i + 1 => by rw [dG, hU, mI L i]; rfl
theorem rV : ∀ n : Fin 13, tm n.1 n.1 = n.1 * (n.1 - 1) / 2 := by decide
theorem oV {L : List St} (h : aB L = true) : (aC L).length = L.length * (L.length - 1) / 2 := by
 have h12 := (aQ h).1
 unfold aC
 rw [if_pos h, mI]
 exact rV ⟨L.length, by omega⟩
theorem gw {L : List St} (h : aB L = true) {k : Nat} (hk : k < (aC L).length) : k < (bp L L.length).length ∧ prA (aC L) k = (spA (bp L L.length) k).1 ∧ ∃ i j, i < L.length ∧ j < L.length ∧ spA (bp L L.length) k = bP L i j := by
 obtain ⟨e, g⟩ := ed h L.length (Nat.le_refl _)
 have e2 : aC L = (bp L L.length).map Prod.fst := by unfold aC; rw [if_pos h, e]
 have hk2 : k < (bp L L.length).length := by rw [e2, List.length_map] at hk; exact hk
 have hm := jG hk2
 refine ⟨hk2, by rw [e2]; exact hm.2, ?_⟩
 obtain ⟨i, j, hi, hj, es⟩ := g _ hm.1
 exact ⟨i, j, hi, hj, es⟩
theorem fV {L : List St} (h : aB L = true) {i : Nat} (hi : i < L.length) : bo L (stA L i).1 = (stA L i).2 := by unfold bo; rw [if_pos h]; exact gm h hi
theorem oW {L : List St} (h : aB L = true) {k : Nat} (hk : k + 1 < (aC L).length) : dH (bo L (prA (aC L) k).1).1 (bo L (prA (aC L) k).1).2.1 (bo L (prA (aC L) k).1).2.2 (bo L (prA (aC L) k).2).1 (bo L (prA (aC L) k).2).2.1 (bo L (prA (aC L) k).2).2.2 (bo L (prA (aC L) (k + 1)).1).1 (bo L (prA (aC L) (k + 1)).1).2.1 (bo L (prA (aC L) (k + 1)).1).2.2 (bo L (prA (aC L) (k + 1)).2).1 (bo L (prA (aC L) (k + 1)).2).2.1 (bo L (prA (aC L) (k + 1)).2).2.2 ≤ 0 := by
 obtain ⟨l1, e1, i1, j1, hi1, hj1, s1⟩ := gw h (show k < (aC L).length by omega)
 obtain ⟨l2, e2, i2, j2, hi2, hj2, s2⟩ := gw h hk
 have hs := gl h L.length (Nat.le_refl _) k (k + 1) (by omega) l2
 have g1 := eV h (s := spA (bp L L.length) k) ⟨i1, j1, hi1, hj1, s1⟩
 have g2 := eV h (s := spA (bp L L.length) (k + 1)) ⟨i2, j2, hi2, hj2, s2⟩
 have hc : ip (spA (bp L L.length) k) (spA (bp L L.length) (k + 1)) ≤ 0 := by rw [jT g1 g2]; exact jC.2 hs
 rw [e1, e2, s1, s2]
 rw [s1, s2] at hc
 unfold bP
 dsimp only
 rw [fV h hi1, fV h hj1, fV h hi2, fV h hj2]
 exact hc
theorem pu {a b c d x y z : Int} (ht : aM a b c d = true) (hs : aF x y z = true) : aO (apX a b c d x y z) (apY a b c d x y z) (apZ a b c d x y z) = true :=
 sL (qP (D := 300) ht (by have h := bl (bt hs).2 (bt hs).2; omega) (by omega) (by omega)) (tq ht (bv.1 (bt hs).1).2)
theorem oR {L : List St} {a b c d : Int} (h : aB L = true) (ht : aM a b c d = true) {k : Nat} (hk : k < (aC L).length) : prA (aC L) k ∈ aP L (apV a b c d (bo L (prA (aC L) k).1)) (apV a b c d (bo L (prA (aC L) k).2)) := by
 obtain ⟨l1, e1, i, j, hi, hj, s1⟩ := gw h hk
 have si := ck ((aQ h).2 i hi)
 have sj := ck ((aQ h).2 j hj)
 have q1 : bo L (prA (aC L) k).1 = (stA L i).2 := by rw [e1, s1]; exact fV h hi
 have q2 : bo L (prA (aC L) k).2 = (stA L j).2 := by rw [e1, s1]; exact fV h hj
 rw [q1, q2]
 have a1 : apV a b c d (stA L i).2 = apD a b c d (stA L i).2 := ll ht si
 have a2 : apV a b c d (stA L j).2 = apD a b c d (stA L j).2 := ll ht sj
 rw [a1, a2, ik h (show bM (apD a b c d (stA L i).2) = true from pu ht si) (show bM (apD a b c d (stA L j).2) = true from pu ht sj)]
 refine List.mem_map.2 ⟨spA (bp L L.length) k, List.mem_filter.2 ⟨(jG l1).1, ?_⟩, e1.symm⟩
 rw [s1]
 exact decide_eq_true (qe ht)
theorem eu {t a b : ByteArray} {n : Int} (h0 : -9223372036854775808 ≤ n) (h1 : n ≤ 9223372036854775807) (ht : t = a ++ ba n ++ b) : bq t a.size = some (n, (a ++ ba n).size) := by
 unfold bq
 rw [qB a b n h0 h1 t (by rw [ht]; simp)]
 simp [rY]
theorem oX {t a b : ByteArray} {x : St} (h1 : 1 ≤ x.1 ∧ x.1 ≤ 9999) (h2 : -10 ≤ x.2.1 ∧ x.2.1 ≤ 10) (h3 : -10 ≤ x.2.2.1 ∧ x.2.2.1 ≤ 10) (h4 : -10 ≤ x.2.2.2 ∧ x.2.2.2 ≤ 10) (ht : t = a ++ dN x ++ b) : bK t a.size = some (x, (a ++ dN x).size) := by
 have asc : ∀ u v w : ByteArray, u ++ v ++ w = u ++ (v ++ w) := fun u v w => ByteArray.append_assoc
 obtain ⟨x1, x2, x3, x4⟩ := x
 unfold dN at ht ⊢
 dsimp only at h1 h2 h3 h4 ht ⊢
 have e1 := eu (t := t) (a := a) (b := ba x2 ++ ba x3 ++ ba x4 ++ b) (n := x1) (by omega) (by omega) (by rw [ht]; simp only [asc])
 have e2 := eu (t := t) (a := a ++ ba x1) (b := ba x3 ++ ba x4 ++ b) (n := x2) (by omega) (by omega) (by rw [ht]; simp only [asc])
 have e3 := eu (t := t) (a := a ++ ba x1 ++ ba x2) (b := ba x4 ++ b) (n := x3) (by omega) (by omega) (by rw [ht]; simp only [asc])
 have e4 := eu (t := t) (a := a ++ ba x1 ++ ba x2 ++ ba x3) (b := b) (n := x4) (by omega) (by omega) (by rw [ht]; simp only [asc])
 unfold bK
 rw [e1]
 dsimp only
 rw [e2]
 dsimp only
 rw [e3]
 dsimp only
 rw [e4]
 simp only [asc]
theorem lM {L : List St} {k : Nat} (hk : k < L.length) : L.take (k + 1) = L.take k ++ [stA L k] := by
 unfold stA
 rw [List.take_add_one, List.getD_eq_getElem?_getD, List.getElem?_eq_getElem hk]
 rfl
theorem im : ∀ (B A : List St), cw (A ++ B) = cw A ++ cw B
 | [], A => by
  have e : cw [] = ByteArray.empty := rfl
  rw [List.append_nil, e]
  simp
 | x :: B, A => by
  have e1 : A ++ x :: B = (A ++ [x]) ++ B := by simp
  have e2 : cw (x :: B) = dN x ++ cw B := by
   have := im B [x]
   have e3 : cw [x] = dN x := by show ByteArray.empty ++ dN x = _; simp
   rw [e3] at this
   exact this
  rw [e1, im B (A ++ [x]), ef, e2, ByteArray.append_assoc]
theorem ja {L : List St} (h : aB L = true) {t : ByteArray} (ht : t = ba (L.length : Int) ++ cw L) : ∀ k, k ≤ L.length → aN t (ba (L.length : Int)).size k = some (L.take k, (ba (L.length : Int) ++ cw (L.take k)).size)
 | 0, _ => by
  have e : cw (L.take 0) = ByteArray.empty := rfl
  unfold aN
  rw [e]
  simp
 | k + 1, hk => by
  have asc : ∀ u v w : ByteArray, u ++ v ++ w = u ++ (v ++ w) := fun u v w => ByteArray.append_assoc
  have ih := ja h ht k (by omega)
  obtain ⟨⟨s1, s2, s3, s4⟩, hs⟩ : ∃ s, stA L k = s := ⟨_, rfl⟩
  obtain ⟨b1, b2, b3, b4⟩ := iE hs ((aQ h).2 k (by omega))
  have hb : ∃ r, cw L = cw (L.take (k + 1)) ++ r := ⟨cw (L.drop (k + 1)), by rw [← im, List.take_append_drop]⟩
  obtain ⟨r, hr⟩ := hb
  have e : t = (ba (L.length : Int) ++ cw (L.take k)) ++ dN (stA L k) ++ r := by rw [ht, hr, lM (by omega), ef]; simp only [asc]
  have r4 := oX (x := stA L k) (by rw [hs]; exact b1) (by rw [hs]; exact b2) (by rw [hs]; exact b3) (by rw [hs]; exact b4) e
  unfold aN
  rw [ih]
  dsimp only
  rw [r4]
  dsimp only
  rw [lM (show k < L.length by omega), ef]
  simp only [asc]
theorem ms {L : List St} (h : aB L = true) : aS (bG L L.length) = some (L, (bG L L.length).size) := by
 have h12 := (aQ h).1
 have et := gz L L.length (Nat.le_refl _)
 rw [List.take_length] at et
 have e1 := eu (t := bG L L.length) (a := ByteArray.empty) (b := cw L) (n := (L.length : Int)) (by omega) (by omega) (by rw [et]; simp)
 have e2 := ja h et L.length (Nat.le_refl _)
 rw [List.take_length, ← et] at e2
 have e0 : ByteArray.empty.size = 0 := rfl
 have e3 : (ByteArray.empty ++ ba (L.length : Int)).size = (ba (L.length : Int)).size := by simp
 rw [e0, e3] at e1
 unfold aS
 rw [e1]
 dsimp only
 rw [if_neg (by omega)]
 exact e2
theorem qC {t : ByteArray} (h : t.size ≤ 7996) : unC (aL t) = 0 ∧ unT (aL t) = t := by
 have hs := fa h
 have hz : (aL t).size = t.size + 4 := by rw [hs, ByteArray.size_append, dC]
 have hx : (aL t).extract 0 ((aL t).size - 4) = t := by
  rw [hz, show t.size + 4 - 4 = t.size by omega, hs]
  exact ByteArray.extract_append_eq_left rfl
 have hc : unC (aL t) = 0 := by
  unfold unC
  rw [if_neg (by omega), if_neg (by omega), hx, if_pos rfl]
 refine ⟨hc, ?_⟩
 unfold unT
 rw [if_pos hc, hx]
theorem rO {L : List St} (h : aB L = true) : eo (dO L) = .ok L := by
 have h12 := (aQ h).1
 have hz := cm L L.length
 obtain ⟨u1, u2⟩ := qC (t := bG L L.length) (by omega)
 unfold eo dO
 rw [if_pos h, if_pos u1, u2]
 unfold bE
 rw [ms h]
 dsimp only
 rw [if_pos ⟨rfl, h⟩]
theorem nU {u : ByteArray} {L : List St} (h : eo u = .ok L) : aB L = true ∧ dO L = u := by
 unfold eo at h
 split at h
 ·rename_i hu
  cases hg : bE (unT u) with
  | none => rw [hg] at h; cases h
  | some L2 =>
   rw [hg] at h
   injection h with e
   subst e
   unfold bE at hg
   cases hr : aS (unT u) with
   | none => rw [hr] at hg; cases hg
   | some r =>
    obtain ⟨L3, q⟩ := r
    rw [hr] at hg
    dsimp only at hg
    split at hg
    ·rename_i hq
     injection hg with e
     subst e
     exact ⟨hq.2, (pM hu hr).2 hq⟩
    ·cases hg
 ·cases h
theorem qF {L : List St} (h : aB L = false) : dO L = ⟨#[]⟩ := by unfold dO; rw [if_neg (by rw [h]; exact Bool.false_ne_true)]
theorem rQ {L : List St} (h : aB L = true) : 4 ≤ (dO L).size := by
 have h12 := (aQ h).1
 have hz := cm L L.length
 unfold dO
 rw [if_pos h, fa (by omega), ByteArray.size_append, dC]
 omega
end
end Go.Proofs.YthoiooefclbecaaGreatDoor
