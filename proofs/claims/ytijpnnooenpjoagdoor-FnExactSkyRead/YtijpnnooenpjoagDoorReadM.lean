/- What was read is what is written: plain facts, nothing of the program in them. -/
import Derived.Test.YtijpnnooenpjoagDoorReadD
import Derived.Test.YtijpnnooenpjoagDoorSkyK
namespace Go.Proofs.YtijpnnooenpjoagDoor
open Go.RowKit Go.Sort
set_option linter.unusedVariables false

theorem fold_unf (u : Nat) : fold (unf u) = u := by
  unfold unf fold
  split <;> split <;> omega
theorem scan_dec (s : ByteArray) (p : Nat) : ∀ (k i u x q : Nat), i + k = 9 → scan s p (k + 1) i u = .ok (x, q) →
    ∃ v, x = u + v * 2 ^ (7 * i) ∧ q = p + i + (enc k v).length ∧ (i = 0 ∨ 0 < v) ∧ ∀ j, j < (enc k v).length → p + i + j < s.size ∧ byteN s (p + i + j) = (enc k v).getD j 0
  | 0, i, u, x, q, hi, h => by
    obtain rfl : i = 9 := by omega
    rw [scan] at h
    split at h
    · cases h
    split at h
    · cases h
    split at h
    · split at h
      · cases h
      · rename_i h1 h2 h3 h4
        have h := Except.ok.inj h
        have ha : x = _ := (congrArg Prod.fst h).symm
        have hb : q = _ := (congrArg Prod.snd h).symm
        refine ⟨byteN s (p + 9), ?_, ?_, ?_, ?_⟩
        · rw [ha]; simp only; rw [Nat.mod_eq_of_lt h3]
        · rw [hb]; simp [enc]
        · omega
        · intro j hj
          simp [enc] at hj
          subst hj
          simp [enc]
          omega
    · rename_i h1 h2 h3
      exact absurd (show 9 = 9 ∧ 1 < byteN s (p + 9) from ⟨rfl, by omega⟩) h2
  | k + 1, i, u, x, q, hi, h => by
    rw [scan] at h
    split at h
    · cases h
    split at h
    · cases h
    split at h
    · split at h
      · cases h
      · rename_i h1 h2 h3 h4
        have h := Except.ok.inj h
        have ha : x = _ := (congrArg Prod.fst h).symm
        have hb : q = _ := (congrArg Prod.snd h).symm
        refine ⟨byteN s (p + i), ?_, ?_, ?_, ?_⟩
        · rw [ha]; simp only; rw [Nat.mod_eq_of_lt h3]
        · rw [hb, enc_small _ _ h3]; simp
        · omega
        · rw [enc_small _ _ h3]
          intro j hj
          simp at hj
          subst hj
          simp
          omega
    · rename_i h1 h2 h3
      obtain ⟨v, e1, e2, e3, e4⟩ := scan_dec s p k (i + 1) _ x q (by omega) h
      have hv : 0 < v := by omega
      have hb := byteN_256 s (p + i)
      have hen : enc (k + 1) (v * 128 + byteN s (p + i) % 128) = byteN s (p + i) :: enc k v := by
        rw [enc_more _ _ (by omega), show (v * 128 + byteN s (p + i) % 128) % 128 + 128 = byteN s (p + i) by omega, show (v * 128 + byteN s (p + i) % 128) / 128 = v by omega]
      refine ⟨v * 128 + byteN s (p + i) % 128, ?_, ?_, .inr (by omega), ?_⟩
      · rw [e1, show 7 * (i + 1) = 7 + 7 * i by omega, Nat.pow_add, Nat.add_mul, ← Nat.mul_assoc, show (2 : Nat) ^ 7 = 128 from rfl]
        omega
      · rw [hen, e2]; simp; omega
      · rw [hen]
        intro j hj
        match j, hj with
        | 0, hj => exact ⟨by omega, by simp⟩
        | j + 1, hj =>
          have := e4 j (by simpa using hj)
          rw [show p + i + (j + 1) = p + (i + 1) + j by omega]
          exact ⟨this.1, by rw [this.2]; simp⟩
theorem ext_byte {a b : ByteArray} (h : a.size = b.size) (hb : ∀ j, j < a.size → byteN a j = byteN b j) : a = b := by
  apply ByteArray.ext
  apply Array.ext
  · exact h
  · intro i h1 h2
    have := hb i h1
    rw [byteN_lt h1, byteN_lt h2] at this
    exact UInt8.toNat_inj.1 this
theorem byteN_extract {s : ByteArray} {p q j : Nat} (hj : p + j < q) (hq : q ≤ s.size) : byteN (s.extract p q) j = byteN s (p + j) := by
  have h1 : j < (s.extract p q).size := by simp; omega
  rw [byteN_lt h1, byteN_lt (show p + j < s.size by omega)]
  rw [ByteArray.getElem_extract]
theorem numS_byte {n : Int} {j : Nat} (hj : j < (enc 9 (fold n)).length) (h : (enc 9 (fold n)).getD j 0 < 256) : byteN (numS n) j = (enc 9 (fold n)).getD j 0 := by
  have hk : j < (numS n).size := by simp only [numS, strOfNums_size, List.length_map]; exact hj
  have hd : (numS n).data.toList[j]? = some (UInt8.ofNat ((enc 9 (fold n))[j])) := by rw [numS, strOfNums_data]; simp [hj]
  have h2 : (numS n).data.toList[j]? = some (numS n)[j] := by rw [Array.getElem?_toList]; exact Array.getElem?_eq_getElem hk
  rw [h2] at hd
  rw [byteN_lt hk, Option.some.inj hd]
  rw [List.getD, List.getElem?_eq_getElem hj] at h ⊢
  simp at h ⊢
  omega
theorem scanN_text {s : ByteArray} {p : Nat} {n : Int} {q : Nat} (h : scanN s p = some (n, q)) : s.extract p q = numS n := by
  have hle := scanN_le h
  unfold scanN at h
  cases hs : scan s p 10 0 0 with
  | error c => rw [hs] at h; cases h
  | ok x =>
    obtain ⟨u, q'⟩ := x
    rw [hs] at h
    simp at h
    obtain ⟨rfl, rfl⟩ := h
    obtain ⟨v, e1, e2, e3, e4⟩ := scan_dec s p 9 0 0 u q' (by omega) hs
    simp at e1 e2
    subst e1
    have hz : (numS (unf u)).size = (enc 9 u).length := by simp only [numS, strOfNums_size, List.length_map, fold_unf]
    apply ext_byte
    · rw [hz]; simp; omega
    · intro j hj
      have hj' : j < (enc 9 u).length := by simp at hj; omega
      have := e4 j hj'
      rw [byteN_extract (by omega) hle.2, numS_byte (by rw [fold_unf]; exact hj') (by rw [fold_unf, ← this.2]; exact byteN_256 _ _), fold_unf]
      exact this.2
theorem glueT {s : ByteArray} {p q r : Nat} {A B : ByteArray} (h1 : s.extract p q = A) (h2 : s.extract q r = B) (hpq : p ≤ q) (hqr : q ≤ r) : s.extract p r = A ++ B := by
  rw [← h1, ← h2, ByteArray.extract_append_extract]
  congr 1 <;> omega
theorem read4_text {s : ByteArray} {p q : Nat} {x : St} (h : read4 s p = some (x, q)) : s.extract p q = starB x := by
  unfold read4 at h
  split at h
  · cases h
  · rename_i a p1 h1
    split at h
    · cases h
    · rename_i b p2 h2
      split at h
      · cases h
      · rename_i c p3 h3
        split at h
        · cases h
        · rename_i d p4 h4
          have e1 := scanN_le h1
          have e2 := scanN_le h2
          have e3 := scanN_le h3
          have e4 := scanN_le h4
          simp at h
          obtain ⟨rfl, rfl⟩ := h
          exact glueT (glueT (glueT (scanN_text h1) (scanN_text h2) (by omega) (by omega)) (scanN_text h3) (by omega) (by omega)) (scanN_text h4) (by omega) (by omega)
def bodyS (L : List St) : ByteArray := L.foldl (fun t x => t ++ starB x) ByteArray.empty
theorem bodyS_snoc (L : List St) (x : St) : bodyS (L ++ [x]) = bodyS L ++ starB x := by
  unfold bodyS
  rw [List.foldl_append]
  rfl
theorem readTo_text {s : ByteArray} {p : Nat} (hp : p ≤ s.size) : ∀ (k : Nat) {L : List St} {q : Nat}, readTo s p k = some (L, q) → s.extract p q = bodyS L ∧ p ≤ q
  | 0, L, q, h => by
    simp [readTo] at h
    obtain ⟨rfl, rfl⟩ := h
    refine ⟨?_, Nat.le_refl _⟩
    apply ext_byte
    · simp [bodyS]
    · intro j hj
      simp at hj
  | k + 1, L, q, h => by
    unfold readTo at h
    split at h
    · cases h
    · rename_i L' q' h'
      split at h
      · cases h
      · rename_i x q2 h2
        have e1 := readTo_text hp k h'
        have e2 := read4_le h2
        simp at h
        obtain ⟨rfl, rfl⟩ := h
        refine ⟨?_, by omega⟩
        rw [bodyS_snoc]
        exact glueT e1.1 (read4_text h2) e1.2 (by omega)
theorem skyTo_body (L : List St) : ∀ k, k ≤ L.length → skyTo L k = numS (L.length : Int) ++ bodyS (L.take k)
  | 0, _ => by
    simp [skyTo, List.take_zero, bodyS]
  | k + 1, h => by
    rw [skyTo, skyTo_body L k (by omega), List.take_succ_eq_append_getElem (by omega), bodyS_snoc, ByteArray.append_assoc]
    congr 3
    unfold stA
    rw [List.getD, List.getElem?_eq_getElem (by omega)]
    rfl
theorem readAll_text {s : ByteArray} {L : List St} {q : Nat} (h : readAll s = some (L, q)) : s.extract 0 q = skyTo L L.length ∧ q ≤ s.size := by
  unfold readAll at h
  split at h
  · cases h
  · rename_i n p h1
    split at h
    · cases h
    · rename_i hn
      have e1 := scanN_le h1
      have e2 := readTo_text e1.2 _ h
      have e3 := readTo_le e1.2 _ h
      refine ⟨?_, e3.1⟩
      rw [skyTo_body L _ (Nat.le_refl _), List.take_length]
      have hl : (L.length : Int) = n := by rw [e3.2]; omega
      rw [hl]
      exact glueT (scanN_text h1) e2.1 (by omega) e2.2
theorem sky_iff {s : ByteArray} (hu : unC s = 0) {L : List St} {q : Nat} (h : readAll (unT s) = some (L, q)) : skyS L = s ↔ q = (unT s).size ∧ skyB L = true := by
  have ht := readAll_text h
  have hz := unT_size hu
  have hc := unC_zero hu
  have he : unT s = s.extract 0 (s.size - 4) := by unfold unT; rw [if_pos hu]
  have hs : sealOf (unT s) = s := by rw [he]; exact hc.2.2
  generalize unT s = t at *
  clear h he
  have hex : t.extract 0 t.size = t := by
    apply ext_byte
    · simp
    · intro j hj
      have : j < t.size := by simpa using hj
      rw [byteN_extract (by omega) (Nat.le_refl _), Nat.zero_add]
  constructor
  · intro hS
    unfold skyS at hS
    split at hS
    · rename_i hb
      refine ⟨?_, hb⟩
      have h7 : ¬ 7996 < (skyTo L L.length).size := by
        intro h
        unfold sealOf at hS
        rw [if_pos h] at hS
        have : s.size = 0 := by rw [← hS]; rfl
        omega
      have h8 : ¬ 7996 < t.size := by omega
      have := congrArg ByteArray.size hS
      unfold sealOf at this
      rw [if_neg h7, ByteArray.size_append, four_size] at this
      have hq := congrArg ByteArray.size ht.1
      simp at hq
      omega
    · have : s.size = 0 := by rw [← hS]; rfl
      omega
  · rintro ⟨rfl, hb⟩
    unfold skyS
    rw [if_pos hb, ← ht.1, hex, hs]
end Go.Proofs.YtijpnnooenpjoagDoor
