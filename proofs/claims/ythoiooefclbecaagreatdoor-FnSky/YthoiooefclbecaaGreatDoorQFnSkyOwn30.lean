/- Several texts in one: DeskA, ReadM. -/
import Derived.Test.YthoiooefclbecaaGreatDoorQFnSkyOwn17
import Derived.Test.YthoiooefclbecaaGreatDoorQFnSkyOwn28
import Derived.Test.YthoiooefclbecaaGreatDoorQFnSkyOwn23
namespace Go.Proofs.YthoiooefclbecaaGreatDoor
set_option linter.unusedVariables false
set_option linter.unusedSimpArgs false
set_option maxRecDepth 100000
set_option maxHeartbeats 8000000
section
open Go.RowKit
def sQ : List St := [(1, 0, 0, 1), (2, 1, 0, 2), (3, 0, 1, 3), (4, -1, -1, 2), (5, 2, 1, 5), (6, 1, 0, 0)]
def px : Obj := .cells #[.int .i64 1, .int .i64 0, .int .i64 0, .int .i64 1, .int .i64 2, .int .i64 1, .int .i64 0, .int .i64 2, .int .i64 3, .int .i64 0, .int .i64 1, .int .i64 3, .int .i64 4, .int .i64 (-1), .int .i64 (-1), .int .i64 2, .int .i64 5, .int .i64 2, .int .i64 1, .int .i64 5, .int .i64 6, .int .i64 1, .int .i64 0, .int .i64 0] 62
theorem mA (w : World) : Calls Tryz.prog 76 #[] w fun e w' => e = .returned (.slice (some ⟨w.heap.size, 0, none⟩) 6 6) ∧ w' = w.alloc px := by
 go_enter Tryz.func76, Tryz.ntmps76
 go_wp2
 go_ret
 exact ⟨rfl, rfl⟩
end
section
open Go.RowKit Go.Sort
theorem gN (u : Nat) : bA (unf u) = u := by
 unfold unf bA
 split <;> split <;> omega
theorem nP (s : ByteArray) (p : Nat) : ∀ (k i u x q : Nat), i + k = 9 → bi s p (k + 1) i u = .ok (x, q) →
  ∃ v, x = u + v * 2 ^ (7 * i) ∧ q = p + i + (enc k v).length ∧ (i = 0 ∨ 0 < v) ∧ ∀ j, j < (enc k v).length → p + i + j < s.size ∧ bD s (p + i + j) = (enc k v).getD j 0
 | 0, i, u, x, q, hi, h => by
  obtain rfl : i = 9 := by omega
  rw [bi] at h
  split at h
  ·cases h
  split at h
  ·cases h
  split at h
  ·split at h
   ·cases h
   ·rename_i h1 h2 h3 h4
    have h := Except.ok.inj h
    have ha : x = _ := (congrArg Prod.fst h).symm
    have hb : q = _ := (congrArg Prod.snd h).symm
    refine ⟨bD s (p + 9), ?_, ?_, ?_, ?_⟩
    ·rw [ha]; simp only; rw [Nat.mod_eq_of_lt h3]
    ·rw [hb]; simp [enc]
    ·omega
    ·intro j hj
     simp [enc] at hj
     subst hj
     simp [enc]
     omega
  ·rename_i h1 h2 h3
   exact absurd (show 9 = 9 ∧ 1 < bD s (p + 9) from ⟨rfl, by omega⟩) h2
 | k + 1, i, u, x, q, hi, h => by
  rw [bi] at h
  split at h
  ·cases h
  split at h
  ·cases h
  split at h
  ·split at h
   ·cases h
   ·rename_i h1 h2 h3 h4
    have h := Except.ok.inj h
    have ha : x = _ := (congrArg Prod.fst h).symm
    have hb : q = _ := (congrArg Prod.snd h).symm
    refine ⟨bD s (p + i), ?_, ?_, ?_, ?_⟩
    ·rw [ha]; simp only; rw [Nat.mod_eq_of_lt h3]
    ·rw [hb, dB _ _ h3]; simp
    ·omega
    ·rw [dB _ _ h3]
     intro j hj
     simp at hj
     subst hj
     simp
     omega
  ·rename_i h1 h2 h3
   obtain ⟨v, e1, e2, e3, e4⟩ := nP s p k (i + 1) _ x q (by omega) h
   have hv : 0 < v := by omega
   have hb := io s (p + i)
   have hen : enc (k + 1) (v * 128 + bD s (p + i) % 128) = bD s (p + i) :: enc k v := by
    rw [fm _ _ (by omega), show (v * 128 + bD s (p + i) % 128) % 128 + 128 = bD s (p + i) by omega, show (v * 128 + bD s (p + i) % 128) / 128 = v by omega]
   refine ⟨v * 128 + bD s (p + i) % 128, ?_, ?_, .inr (by omega), ?_⟩
   ·rw [e1, show 7 * (i + 1) = 7 + 7 * i by omega, Nat.pow_add, Nat.add_mul, ← Nat.mul_assoc, show (2 : Nat) ^ 7 = 128 from rfl]
    omega
   ·rw [hen, e2]; simp; omega
   ·rw [hen]
    intro j hj
    match j, hj with
    | 0, hj => exact ⟨by omega, by simp⟩
    | j + 1, hj =>
     have := e4 j (by simpa using hj)
     rw [show p + i + (j + 1) = p + (i + 1) + j by omega]
     exact ⟨this.1, by rw [this.2]; simp⟩
theorem jY {a b : ByteArray} (h : a.size = b.size) (hb : ∀ j, j < a.size → bD a j = bD b j) : a = b := by
 apply ByteArray.ext
 apply Array.ext
 ·exact h
 ·intro i h1 h2
  have := hb i h1
  rw [bY h1, bY h2] at this
  exact UInt8.toNat_inj.1 this
theorem ga {s : ByteArray} {p q j : Nat} (hj : p + j < q) (hq : q ≤ s.size) : bD (s.extract p q) j = bD s (p + j) := by
 have h1 : j < (s.extract p q).size := by simp; omega
 rw [bY h1, bY (show p + j < s.size by omega)]
 rw [ByteArray.getElem_extract]
theorem qt {n : Int} {j : Nat} (hj : j < (enc 9 (bA n)).length) (h : (enc 9 (bA n)).getD j 0 < 256) : bD (ba n) j = (enc 9 (bA n)).getD j 0 := by
 have hk : j < (ba n).size := by simp only [ba, strOfNums_size, List.length_map]; exact hj
 have hd : (ba n).data.toList[j]? = some (UInt8.ofNat ((enc 9 (bA n))[j])) := by rw [ba, strOfNums_data]; simp [hj]
 have h2 : (ba n).data.toList[j]? = some (ba n)[j] := by rw [Array.getElem?_toList]; exact Array.getElem?_eq_getElem hk
 rw [h2] at hd
 rw [bY hk, Option.some.inj hd]
 rw [List.getD, List.getElem?_eq_getElem hj] at h ⊢
 simp at h ⊢
 omega
theorem ew {s : ByteArray} {p : Nat} {n : Int} {q : Nat} (h : bq s p = some (n, q)) : s.extract p q = ba n := by
 have hle := bg h
 unfold bq at h
 cases hs : bi s p 10 0 0 with
 | error c => rw [hs] at h; cases h
 | ok x =>
  obtain ⟨u, q'⟩ := x
  rw [hs] at h
  simp at h
  obtain ⟨rfl, rfl⟩ := h
  obtain ⟨v, e1, e2, e3, e4⟩ := nP s p 9 0 0 u q' (by omega) hs
  simp at e1 e2
  subst e1
  have hz : (ba (unf u)).size = (enc 9 u).length := by simp only [ba, strOfNums_size, List.length_map, gN]
  apply jY
  ·rw [hz]; simp; omega
  ·intro j hj
   have hj' : j < (enc 9 u).length := by simp at hj; omega
   have := e4 j hj'
   rw [ga (by omega) hle.2, qt (by rw [gN]; exact hj') (by rw [gN, ← this.2]; exact io _ _), gN]
   exact this.2
theorem na {s : ByteArray} {p q r : Nat} {A B : ByteArray} (h1 : s.extract p q = A) (h2 : s.extract q r = B) (hpq : p ≤ q) (hqr : q ≤ r) : s.extract p r = A ++ B := by
 rw [← h1, ← h2, ByteArray.extract_append_extract]
 congr 1 <;> omega
theorem oY {s : ByteArray} {p q : Nat} {x : St} (h : bK s p = some (x, q)) : s.extract p q = dN x := by
 unfold bK at h
 split at h
 ·cases h
 ·rename_i a p1 h1
  split at h
  ·cases h
  ·rename_i b p2 h2
   split at h
   ·cases h
   ·rename_i c p3 h3
    split at h
    ·cases h
    ·rename_i d p4 h4
     have e1 := bg h1
     have e2 := bg h2
     have e3 := bg h3
     have e4 := bg h4
     simp at h
     obtain ⟨rfl, rfl⟩ := h
     exact na (na (na (ew h1) (ew h2) (by omega) (by omega)) (ew h3) (by omega) (by omega)) (ew h4) (by omega) (by omega)
def cw (L : List St) : ByteArray := L.foldl (fun t x => t ++ dN x) ByteArray.empty
theorem ef (L : List St) (x : St) : cw (L ++ [x]) = cw L ++ dN x := by
 unfold cw
 rw [List.foldl_append]
 rfl
theorem jd {s : ByteArray} {p : Nat} (hp : p ≤ s.size) : ∀ (k : Nat) {L : List St} {q : Nat}, aN s p k = some (L, q) → s.extract p q = cw L ∧ p ≤ q
 | 0, L, q, h => by
  simp [aN] at h
  obtain ⟨rfl, rfl⟩ := h
  refine ⟨?_, Nat.le_refl _⟩
  apply jY
  ·simp [cw]
  ·intro j hj
   simp at hj
 | k + 1, L, q, h => by
  unfold aN at h
  split at h
  ·cases h
  ·rename_i L' q' h'
   split at h
   ·cases h
   ·rename_i x q2 h2
    have e1 := jd hp k h'
    have e2 := kr h2
    simp at h
    obtain ⟨rfl, rfl⟩ := h
    refine ⟨?_, by omega⟩
    rw [ef]
    exact na e1.1 (oY h2) e1.2 (by omega)
theorem gz (L : List St) : ∀ k, k ≤ L.length → bG L k = ba (L.length : Int) ++ cw (L.take k)
 | 0, _ => by
  simp [bG, List.take_zero, cw]
 | k + 1, h => by
  rw [bG, gz L k (by omega), List.take_succ_eq_append_getElem (by omega), ef, ByteArray.append_assoc]
  congr 3
  unfold stA
  rw [List.getD, List.getElem?_eq_getElem (by omega)]
  rfl
theorem mt {s : ByteArray} {L : List St} {q : Nat} (h : aS s = some (L, q)) : s.extract 0 q = bG L L.length ∧ q ≤ s.size := by
 unfold aS at h
 split at h
 ·cases h
 ·rename_i n p h1
  split at h
  ·cases h
  ·rename_i hn
   have e1 := bg h1
   have e2 := jd e1.2 _ h
   have e3 := fM e1.2 _ h
   refine ⟨?_, e3.1⟩
   rw [gz L _ (Nat.le_refl _), List.take_length]
   have hl : (L.length : Int) = n := by rw [e3.2]; omega
   rw [hl]
   exact na (ew h1) e2.1 (by omega) e2.2
theorem pM {s : ByteArray} (hu : unC s = 0) {L : List St} {q : Nat} (h : aS (unT s) = some (L, q)) : dO L = s ↔ q = (unT s).size ∧ aB L = true := by
 have ht := mt h
 have hz := kL hu
 have hc := oj hu
 have he : unT s = s.extract 0 (s.size - 4) := by unfold unT; rw [if_pos hu]
 have hs : aL (unT s) = s := by rw [he]; exact hc.2.2
 generalize unT s = t at *
 clear h he
 have hex : t.extract 0 t.size = t := by
  apply jY
  ·simp
  ·intro j hj
   have : j < t.size := by simpa using hj
   rw [ga (by omega) (Nat.le_refl _), Nat.zero_add]
 constructor
 ·intro hS
  unfold dO at hS
  split at hS
  ·rename_i hb
   refine ⟨?_, hb⟩
   have h7 : ¬ 7996 < (bG L L.length).size := by
    intro h
    unfold aL at hS
    rw [if_pos h] at hS
    have : s.size = 0 := by rw [← hS]; rfl
    omega
   have h8 : ¬ 7996 < t.size := by omega
   have := congrArg ByteArray.size hS
   unfold aL at this
   rw [if_neg h7, ByteArray.size_append, dC] at this
   have hq := congrArg ByteArray.size ht.1
   simp at hq
   omega
  ·have : s.size = 0 := by rw [← hS]; rfl
   omega
 ·rintro ⟨rfl, hb⟩
  unfold dO
  rw [if_pos hb, ← ht.1, hex, hs]
end
end Go.Proofs.YthoiooefclbecaaGreatDoor
