/- Several texts in one: MirO. -/
import Derived.Test.YtackifnnhjbgbaaQFnFrameOwn1
import Derived.Test.YtackifnnhjbgbaaQFnFrameOwn6
import Derived.Test.YtackifnnhjbgbaaQFnFrameOwn4
import Derived.Test.YtackifnnhjbgbaaQFnFrameOwn2
namespace Go.Proofs.Ytackifnnhjbgbaa
set_option linter.unusedVariables false
set_option linter.unusedSimpArgs false
set_option maxRecDepth 100000
set_option maxHeartbeats 8000000
section
open Go.RowKit
theorem dV (s : ByteArray) (i : Nat) : ao s i = (s.data.toList[i]?.getD 0).toNat := by
 unfold ao
 split
 ·rename_i h
  have h2 : i < s.data.toList.length := by rw [Array.length_toList]; exact h
  rw [List.getElem?_eq_getElem h2]
  rfl
 ·rename_i h
  have h2 : s.data.toList.length ≤ i := by rw [Array.length_toList]; exact Nat.le_of_not_lt h
  rw [List.getElem?_eq_none h2]
  rfl
theorem dA (wd : Nat) (s : ByteArray) : (bN wd s).size = s.size := by unfold bN; rw [strOfNums_size, iG]
theorem jh {wd : Nat} {s : ByteArray} {i : Nat} (h : i < s.size) : ao (bN wd s) i = ao s (mir wd i) := by
 rw [dV, bN, strOfNums_data]
 unfold dH
 rw [List.map_map, List.getElem?_map, List.getElem?_range h]
 show (UInt8.ofNat ((ao s (mir wd i) : Int)).toNat).toNat = _
 have := eL s (mir wd i)
 rw [Int.toNat_natCast, UInt8.toNat_ofNat', Nat.mod_eq_of_lt (by omega)]
theorem hX {wd ht : Nat} {s : ByteArray} (lv : Int) (hs : s.size = wd * ht) : bZ (aK wd ht s lv) (aK wd ht (bN wd s) lv) :=
 ⟨rfl, rfl, rfl, fun i hi => jh (by rw [hs]; exact hi)⟩
theorem dL {wd ht : Int} {s : ByteArray} {lv : Int} (h : bu wd ht s lv = 0) : okB wd ht s lv = true ∧ (cb wd ht s lv).length ≤ 8 ∧ bp wd ht s lv = cb wd ht s lv := by
 unfold bu at h
 split at h
 ·rename_i h1
  split at h
  ·rename_i h2
   exact ⟨h1, h2, (di h1 h2).1⟩
  ·omega
 ·omega
theorem go {wd ht : Nat} {s t : ByteArray} (h : t.size = s.size) : av (wd : Int) (ht : Int) t = av (wd : Int) (ht : Int) s := by
 cases e : av (wd : Int) (ht : Int) s
 ·cases e2 : av (wd : Int) (ht : Int) t
  ·rfl
  ·rw [au, h, ← au] at e2; rw [e2] at e; cases e
 ·rw [au] at e ⊢; rw [h]; exact e
def ce (S : List Bl) : Nat := (S.map Bl.ar).sum
def bW (S : List Bl) : Nat := (S.map Bl.su).sum
def gd (S : List Bl) : Nat := (S.map Bl.sx).sum
theorem iH {wd ht : Nat} {s : ByteArray} {lv : Int} (h : bu (wd : Int) (ht : Int) s lv = 0) :
  bu (wd : Int) (ht : Int) (bN wd s) lv = 0 ∧ (bp (wd : Int) (ht : Int) (bN wd s) lv).length = (bp (wd : Int) (ht : Int) s lv).length ∧
  ce (bp (wd : Int) (ht : Int) (bN wd s) lv) = ce (bp (wd : Int) (ht : Int) s lv) ∧
  gd (bp (wd : Int) (ht : Int) s lv) + gd (bp (wd : Int) (ht : Int) (bN wd s) lv) = (wd - 1) * bW (bp (wd : Int) (ht : Int) s lv) ∧
  ce (bp (wd : Int) (ht : Int) s lv) = ax (az (aK wd ht s lv) (fun _ => 1)) s.size ∧ bW (bp (wd : Int) (ht : Int) s lv) = ax (az (aK wd ht s lv) (ao s)) s.size := by
 obtain ⟨h1, h2, h3⟩ := dL h
 have hf : av (wd : Int) (ht : Int) s = true := by unfold okB at h1; simp only [Bool.and_eq_true] at h1; exact h1.1
 have hl : dG lv = true := by unfold okB at h1; simp only [Bool.and_eq_true] at h1; exact h1.2
 obtain ⟨f1, f2, f3, f4, f5⟩ := au.1 hf
 have hs : s.size = wd * ht := by
  have : ((s.size : Nat) : Int) = ((wd * ht : Nat) : Int) := by rw [f5]; exact (Int.natCast_mul _ _).symm
  omega
 have hn : (aK wd ht s lv).n = s.size := hs.symm
 have hn2 : (aK wd ht (bN wd s) lv).n = s.size := hs.symm
 have M := hX lv hs
 have e1 : cb (wd : Int) (ht : Int) s lv = (ak (aK wd ht s lv) (aK wd ht s lv).n).2 := by unfold cb; rw [Int.toNat_natCast, Int.toNat_natCast, hn]
 have e2 : cb (wd : Int) (ht : Int) (bN wd s) lv = (ak (aK wd ht (bN wd s) lv) (aK wd ht (bN wd s) lv).n).2 := by unfold cb; rw [Int.toNat_natCast, Int.toNat_natCast, hn2, dA]
 have hlen := gx M
 have ho : okB (wd : Int) (ht : Int) (bN wd s) lv = true := by unfold okB; rw [go (dA wd s), hf, hl]; rfl
 obtain ⟨r1, r2⟩ := di ho (by rw [e2, hlen, ← e1]; exact h2)
 obtain ⟨m1, m2⟩ := gy M (show 0 < wd by omega)
 obtain ⟨b1, b2, _⟩ := bF (aK wd ht s lv)
 rw [r1, h3]
 unfold ce bW gd
 rw [e1, e2]
 exact ⟨r2, hlen, m1, m2, by rw [b1, hn], by rw [b2, hn]; rfl⟩
theorem hJ {s : ByteArray} (i : Nat) : ao (bv s s) i = 0 := by
 rw [dV, bv, strOfNums_data, List.map_map]
 by_cases h : i < s.size
 ·rw [List.getElem?_map, List.getElem?_range h]
  show (UInt8.ofNat (aV s s i).toNat).toNat = 0
  have e : aV s s i = 0 := by unfold aV; split <;> omega
  rw [e]; rfl
 ·rw [List.getElem?_eq_none (by simp; omega)]; rfl
theorem eg (s : ByteArray) : (bv s s).size = s.size := by unfold bv; rw [strOfNums_size]; simp
theorem hI {wd ht : Nat} {s : ByteArray} {lv : Int} (h : bu (wd : Int) (ht : Int) s lv = 0) : bw (wd : Int) (ht : Int) s (wd : Int) (ht : Int) s = .agg #[.int .i64 (wd : Int), .int .i64 (ht : Int), .string (bv s s), .int .i64 0] ∧ bp (wd : Int) (ht : Int) (bv s s) 0 = [] := by
 obtain ⟨h1, _, _⟩ := dL h
 have hf : av (wd : Int) (ht : Int) s = true := by unfold okB at h1; simp only [Bool.and_eq_true] at h1; exact h1.1
 refine ⟨dz (dT hf hf rfl rfl), ?_⟩
 obtain ⟨f1, f2, f3, f4, f5⟩ := au.1 hf
 have hs : s.size = wd * ht := by
  have : ((s.size : Nat) : Int) = ((wd * ht : Nat) : Int) := by rw [f5]; exact (Int.natCast_mul _ _).symm
  omega
 have e : cb (wd : Int) (ht : Int) (bv s s) 0 = [] := by
  unfold cb
  rw [Int.toNat_natCast, Int.toNat_natCast, eg, hs]
  exact iK (f := aK wd ht (bv s s) 0) (fun i _ => by show ¬ (0 : Int) < (ao (bv s s) i : Int); rw [hJ]; omega)
 unfold bp
 rw [e]
 split
 ·split <;> rfl
 ·rfl
end
end Go.Proofs.Ytackifnnhjbgbaa
