/- A sealed text with one byte turned is no Seal any more. Nothing of the program is walked here. -/
import Derived.Test.YtcoibamfgcdbnaaSeal
import Derived.Test.YtcoibamfgcdbnaaCrcMath
namespace Go.Proofs.Ytcoibamfgcdbnaa
open Go.RowKit

theorem four_list (n : Int) : (four n).data.toList = [n % 256, n / 256 % 256, n / 65536 % 256, n / 16777216].map fun x => UInt8.ofNat x.toNat := strOfNums_data _
theorem ofNat_inj {a b : Nat} (ha : a < 256) (hb : b < 256) (h : UInt8.ofNat a = UInt8.ofNat b) : a = b := by
  have := congrArg UInt8.toNat h
  simpa [Nat.mod_eq_of_lt ha, Nat.mod_eq_of_lt hb] using this
theorem four_inj {a b : Nat} (ha : a < 4294967296) (hb : b < 4294967296) (h : (four (a : Int)).data.toList = (four (b : Int)).data.toList) : a = b := by
  rw [four_list, four_list] at h
  simp only [List.map_cons, List.map_nil, List.cons.injEq, and_true] at h
  obtain ⟨h0, h1, h2, h3⟩ := h
  have e0 := ofNat_inj (by omega) (by omega) h0
  have e1 := ofNat_inj (by omega) (by omega) h1
  have e2 := ofNat_inj (by omega) (by omega) h2
  have e3 := ofNat_inj (by omega) (by omega) h3
  omega
theorem bytes_ext {a b : ByteArray} (h : a.data.toList = b.data.toList) : a = b := ByteArray.ext (Array.toList_inj.1 h)
theorem size_list (a : ByteArray) : a.data.toList.length = a.size := by simp
theorem sealOf_short {t : ByteArray} (h : t.size ≤ 7996) : sealOf t = t ++ four (crcOf 0 t : Nat) := by simp [sealOf]; intro; omega
theorem seal_list {t : ByteArray} (h : t.size ≤ 7996) : (sealOf t).data.toList = t.data.toList ++ (four (crcOf 0 t : Nat)).data.toList := by rw [sealOf_short h]; simp

/-- a sealed text with one byte turned is the Seal of nothing -/
theorem seal_turned (t s' : ByteArray) (p : Nat) (d : UInt8) (ht : t.size ≤ 7996) (hp : p < (sealOf t).size) (hd : (sealOf t).data.toList[p]? ≠ some d)
    (hs : s'.data.toList = (sealOf t).data.toList.set p d) : sealOf (s'.extract 0 (s'.size - 4)) ≠ s' := by
  intro h
  have hl := seal_list ht
  have hF : (four (crcOf 0 t : Nat)).data.toList.length = 4 := by rw [size_list, four_size]
  have hT := size_list t
  have hn : (sealOf t).size = t.size + 4 := by rw [← size_list, hl, List.length_append, hF, hT]
  have hn' : s'.size = t.size + 4 := by rw [← size_list, hs, List.length_set, size_list, hn]
  have hB : (s'.extract 0 (s'.size - 4)).data.toList = s'.data.toList.take t.size := by simp [hn']
  have hBs : (s'.extract 0 (s'.size - 4)).size ≤ 7996 := by rw [← size_list, hB, List.length_take]; omega
  have h2 := congrArg (fun x : ByteArray => x.data.toList) h
  simp only [seal_list hBs] at h2
  generalize hbb : s'.extract 0 (s'.size - 4) = b at *
  rw [hB, hs, hl] at h2
  rw [hs, hl] at hB
  rw [hl] at hd
  have hbl := crcOf_lt (c := 0) b (by omega)
  have htl := crcOf_lt (c := 0) t (by omega)
  by_cases hpt : p < t.size
  · have hset : (t.data.toList ++ (four (crcOf 0 t : Nat)).data.toList).set p d = t.data.toList.set p d ++ (four (crcOf 0 t : Nat)).data.toList := List.set_append_left _ _ (by omega)
    rw [hset, List.take_left' (by simp [hT])] at hB h2
    have h3 := List.append_cancel_left h2
    have h4 := four_inj hbl htl h3
    obtain ⟨c, hc⟩ : ∃ c, t.data.toList[p]? = some c := ⟨_, List.getElem?_eq_getElem (by omega)⟩
    have hcd : c ≠ d := by
      intro e
      apply hd
      rw [List.getElem?_append_left (by omega), hc, e]
    obtain ⟨hlt, hge⟩ := List.getElem?_eq_some_iff.1 hc
    have hsplit : t.data.toList = t.data.toList.take p ++ c :: t.data.toList.drop (p + 1) := by
      conv => lhs; rw [← List.take_append_drop p t.data.toList, List.drop_eq_getElem_cons hlt, hge]
    have hsplit2 : b.data.toList = t.data.toList.take p ++ d :: t.data.toList.drop (p + 1) := by
      rw [hB, List.set_eq_take_append_cons_drop, if_pos hlt]
    exact crcOf_turned t b _ _ c d hcd hsplit hsplit2 h4.symm
  · have hset : (t.data.toList ++ (four (crcOf 0 t : Nat)).data.toList).set p d = t.data.toList ++ (four (crcOf 0 t : Nat)).data.toList.set (p - t.data.toList.length) d := List.set_append_right _ _ (by omega)
    rw [hset, List.take_left' hT] at hB h2
    obtain rfl : b = t := bytes_ext hB
    have h3 := List.append_cancel_left h2
    apply hd
    rw [List.getElem?_append_right (by omega), h3, List.getElem?_set_self (by omega)]
end Go.Proofs.Ytcoibamfgcdbnaa
