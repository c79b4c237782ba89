/- Reading back what was written: 'scan' of the bytes of a number gives it back, of all but the last byte nothing. Nothing of the program in it. -/
import Derived.Test.YtcoibamfgcdbnaaDoorNum
import Derived.Test.YtcoibamfgcdbnaaDoorPutText
import Derived.Test.YtcoibamfgcdbnaaDoorGetText
namespace Go.Proofs.YtcoibamfgcdbnaaDoor
open Go.RowKit

theorem unf_fold (n : Int) : unf (fold n) = n := by
  unfold unf fold
  split <;> split <;> omega
theorem enc_lt : ∀ (k i v : Nat), i + k = 9 → v ≤ lim i → ∀ b ∈ enc k v, b < 256
  | 0, i, v, hi, hv, b, hb => by
    obtain rfl : i = 9 := by omega
    rw [lim9] at hv
    simp [enc] at hb
    omega
  | k + 1, i, v, hi, hv, b, hb => by
    by_cases h : v < 128
    · rw [enc_small _ _ h] at hb
      simp at hb
      omega
    · rw [enc_more _ _ h] at hb
      rcases List.mem_cons.mp hb with rfl | hb
      · omega
      · exact enc_lt k (i + 1) (v / 128) (by omega) (lim_step hv) b hb
theorem glue (v i : Nat) : v % 128 * 2 ^ (7 * i) + v / 128 * 2 ^ (7 * (i + 1)) = v * 2 ^ (7 * i) := by
  rw [show 7 * (i + 1) = 7 + 7 * i by omega, Nat.pow_add, ← Nat.mul_assoc, ← Nat.add_mul]
  congr 1
  omega
theorem scan_enc (s : ByteArray) (p : Nat) : ∀ (k i u v : Nat), i + k = 9 → v ≤ lim i → (i = 0 ∨ 0 < v) → (∀ j, j < (enc k v).length → p + i + j < s.size ∧ byteN s (p + i + j) = (enc k v).getD j 0) →
    scan s p (k + 1) i u = .ok (u + v * 2 ^ (7 * i), p + i + (enc k v).length)
  | 0, i, u, v, hi, hv, h0, hb => by
    obtain rfl : i = 9 := by omega
    rw [lim9] at hv
    have h := hb 0 (by simp [enc])
    simp [enc] at h
    have hv0 : 0 < v := by omega
    rw [scan, if_neg (by omega), h.2, if_neg (by omega), if_pos (by omega), if_neg (by omega), Nat.mod_eq_of_lt (by omega)]
    simp [enc]
  | k + 1, i, u, v, hi, hv, h0, hb => by
    by_cases h : v < 128
    · rw [enc_small _ _ h] at hb ⊢
      have h' := hb 0 (by simp)
      simp at h'
      rw [scan, if_neg (by omega), h'.2, if_neg (by omega), if_pos h, if_neg (by omega), Nat.mod_eq_of_lt h]
      simp
    · rw [enc_more _ _ h] at hb ⊢
      have h' := hb 0 (by simp)
      simp at h'
      rw [scan, if_neg (by omega), h'.2, if_neg (by omega), if_neg (by omega)]
      have hr := scan_enc s p k (i + 1) (u + (v % 128 + 128) % 128 * 2 ^ (7 * i)) (v / 128) (by omega) (lim_step hv) (.inr (by omega)) (fun j hj => by
        have := hb (j + 1) (by simp; omega)
        simp at this
        rw [show p + (i + 1) + j = p + i + (j + 1) by omega]
        simpa using this)
      rw [hr, show (v % 128 + 128) % 128 = v % 128 by omega]
      simp only [List.length_cons]
      rw [Nat.add_assoc u, glue, show p + (i + 1) + (enc k (v / 128)).length = p + i + ((enc k (v / 128)).length + 1) by omega]
theorem scan_cut (s : ByteArray) (p : Nat) : ∀ (k i u v : Nat), i + k = 9 → (∀ j, j + 1 < (enc k v).length → byteN s (p + i + j) = (enc k v).getD j 0) → s.size + 1 = p + i + (enc k v).length →
    scan s p (k + 1) i u = .error 4
  | 0, i, u, v, hi, hb, hs => by
    simp [enc] at hs
    exact scan_short (by omega)
  | k + 1, i, u, v, hi, hb, hs => by
    by_cases h : v < 128
    · rw [enc_small _ _ h] at hs
      simp at hs
      exact scan_short (by omega)
    · rw [enc_more _ _ h] at hb hs
      have hl := enc_length k (v / 128)
      have h' := hb 0 (by simp; omega)
      simp at h' hs
      rw [scan, if_neg (by omega), h', if_neg (by omega), if_neg (by omega)]
      exact scan_cut s p k (i + 1) _ (v / 128) (by omega) (fun j hj => by
        have := hb (j + 1) (by simp; omega)
        simp at this
        rw [show p + (i + 1) + j = p + i + (j + 1) by omega]
        simpa using this) (by omega)
theorem byteN_of {s : ByteArray} {k : Nat} {b : UInt8} (h : s.data.toList[k]? = some b) : k < s.size ∧ byteN s k = b.toNat := by
  have hk : k < s.size := by
    have := List.getElem?_eq_some_iff.mp h
    obtain ⟨hk, _⟩ := this
    simpa using hk
  refine ⟨hk, ?_⟩
  rw [byteN_lt hk]
  rw [Array.getElem?_toList] at h
  have : s.data[k]? = some s[k] := Array.getElem?_eq_getElem hk
  rw [this] at h
  rw [Option.some.inj h]
theorem numS_len (n : Int) : (numS n).size = (enc 9 (fold n)).length := by simp only [numS, strOfNums_size, List.length_map]
theorem numS_at (n : Int) (h0 : -9223372036854775808 ≤ n) (h1 : n ≤ 9223372036854775807) (j : Nat) (hj : j < (enc 9 (fold n)).length) :
    ∃ b : UInt8, (numS n).data.toList[j]? = some b ∧ b.toNat = (enc 9 (fold n)).getD j 0 := by
  refine ⟨UInt8.ofNat ((enc 9 (fold n))[j]), ?_, ?_⟩
  · rw [numS, strOfNums_data]
    simp [hj]
  · have hm := enc_lt 9 0 (fold n) (by omega) (by have := fold_le n h0 h1; simpa [lim] using this) _ (List.getElem_mem hj)
    rw [List.getD, List.getElem?_eq_getElem hj]
    simp
    omega
theorem size_data (s : ByteArray) : s.data.toList.length = s.size := by simp
/-- the number's bytes, in a text that has them at place p -/
theorem scan_numS (a b : ByteArray) (n : Int) (h0 : -9223372036854775808 ≤ n) (h1 : n ≤ 9223372036854775807) (s : ByteArray) (hs : s.data.toList = a.data.toList ++ ((numS n).data.toList ++ b.data.toList)) :
    scan s a.size 10 0 0 = .ok (fold n, a.size + (numS n).size) := by
  have h := scan_enc s a.size 9 0 0 (fold n) (by omega) (by have := fold_le n h0 h1; simpa [lim] using this) (.inl rfl) (fun j hj => by
    obtain ⟨x, hx, hxe⟩ := numS_at n h0 h1 j hj
    have hg : s.data.toList[a.size + 0 + j]? = some x := by
      rw [hs, List.getElem?_append_right (by rw [size_data]; omega), size_data, show a.size + 0 + j - a.size = j by omega, List.getElem?_append_left (by rw [size_data, numS_len]; exact hj), hx]
    have := byteN_of hg
    rw [hxe] at this
    exact this)
  rw [h, numS_len]
  simp
theorem scan_numCut (n : Int) (h0 : -9223372036854775808 ≤ n) (h1 : n ≤ 9223372036854775807) (s : ByteArray) (hs : s.data.toList = (numS n).data.toList.take ((numS n).size - 1)) :
    scan s 0 10 0 0 = .error 4 := by
  have hn := numS_size n
  have hl := numS_len n
  have hz : s.size = (numS n).size - 1 := by
    have := congrArg List.length hs
    rw [size_data, List.length_take, size_data] at this
    omega
  refine scan_cut s 0 9 0 0 (fold n) (by omega) (fun j hj => ?_) (by omega)
  obtain ⟨x, hx, hxe⟩ := numS_at n h0 h1 j (by omega)
  have hg : s.data.toList[0 + 0 + j]? = some x := by
    rw [hs, show 0 + 0 + j = j by omega, List.getElem?_take_of_lt (by omega), hx]
  rw [(byteN_of hg).2, hxe]
theorem getRes_back (n : Int) (h0 : -9223372036854775808 ≤ n) (h1 : n ≤ 9223372036854775807) (a b : ByteArray) (ha : a.size ≤ 100) (hb : b.size ≤ 100) :
    getRes (a ++ numS n ++ b) (a.size : Int) = .agg #[.int .i64 n, .int .i64 ((a.size + (numS n).size : Nat) : Int), .int .i64 0] := by
  have hn := numS_size n
  rw [getRes, if_neg (by simp; omega), readRes, if_neg (by omega), Int.toNat_natCast, scan_numS a b n h0 h1 _ (by simp [ByteArray.data_append]), outOf, unf_fold]
theorem getRes_cut (n : Int) (h0 : -9223372036854775808 ≤ n) (h1 : n ≤ 9223372036854775807) (s : ByteArray) (hs : s.data.toList = (numS n).data.toList.take ((numS n).size - 1)) :
    getRes s 0 = .agg #[.int .i64 0, .int .i64 0, .int .i64 4] := by
  have hn := numS_size n
  have hz : s.size = (numS n).size - 1 := by
    have := congrArg List.length hs
    rw [size_data, List.length_take, size_data] at this
    omega
  rw [getRes, if_neg (by omega), readRes, if_neg (by omega)]
  have := scan_numCut n h0 h1 s hs
  rw [show (0 : Int).toNat = 0 from rfl, this, outOf]
theorem bytes_eq {a b : ByteArray} (h : a.data.toList = b.data.toList) : a = b := by
  cases a; cases b; simpa using h
theorem textRes_back (u a s : ByteArray) (hu : u.size ≤ 8000) (hs : s.data.toList = a.data.toList ++ ((numS (u.size : Int)).data.toList ++ u.data.toList)) :
    textRes s (a.size : Int) = .ok (u, a.size + (numS (u.size : Int)).size + u.size) := by
  have hn := numS_size (u.size : Int)
  have hz : s.size = a.size + (numS (u.size : Int)).size + u.size := by
    have := congrArg List.length hs
    simp only [List.length_append, size_data] at this
    omega
  have h := scan_numS a u (u.size : Int) (by omega) (by omega) s hs
  unfold textRes readRes
  rw [if_neg (by omega), Int.toNat_natCast, h]
  simp only [unf_fold]
  have he : s.extract (a.size + (numS (u.size : Int)).size) (a.size + (numS (u.size : Int)).size + u.size) = u := by
    apply bytes_eq
    simp only [ByteArray.data_extract, Array.toList_extract, List.extract_eq_take_drop]
    rw [hs, ← List.append_assoc, List.drop_left' (by simp only [List.length_append, size_data]), List.take_of_length_le (by rw [size_data]; omega)]
  rw [if_neg (by omega), if_neg (by omega), Int.toNat_natCast, he]
theorem textRes_cut (u s : ByteArray) (hu : u.size ≤ 8000) (hs : s.data.toList = ((numS (u.size : Int)).data.toList ++ u.data.toList).take ((numS (u.size : Int)).size + u.size - 1)) :
    textRes s 0 = .error 4 := by
  have hn := numS_size (u.size : Int)
  have hz : s.size = (numS (u.size : Int)).size + u.size - 1 := by
    have := congrArg List.length hs
    simp only [List.length_append, size_data, List.length_take] at this
    omega
  by_cases h0 : u.size = 0
  · have hu0 : u.data.toList = [] := List.eq_nil_of_length_eq_zero (by rw [size_data]; exact h0)
    rw [hu0, List.append_nil, h0, Nat.add_zero] at hs
    have := scan_numCut ((0 : Nat) : Int) (by omega) (by omega) s hs
    unfold textRes readRes
    rw [if_neg (by omega), show (0 : Int).toNat = 0 from rfl, this]
  · have h := scan_numS ⟨#[]⟩ ⟨(u.data.toList.take (u.size - 1)).toArray⟩ (u.size : Int) (by omega) (by omega) s (by
      rw [hs, show (numS (u.size : Int)).size + u.size - 1 = (numS (u.size : Int)).size + (u.size - 1) by omega, List.take_append, size_data, List.take_of_length_le (by rw [size_data]; omega)]
      simp)
    unfold textRes readRes
    rw [if_neg (by omega), show (0 : Int).toNat = (⟨#[]⟩ : ByteArray).size from rfl, h]
    simp only [unf_fold]
    rw [if_neg (by omega), if_pos (by have : (⟨#[]⟩ : ByteArray).size = 0 := rfl; omega)]
end Go.Proofs.YtcoibamfgcdbnaaDoor
