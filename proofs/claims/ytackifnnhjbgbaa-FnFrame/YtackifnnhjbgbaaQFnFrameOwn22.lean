/- Several texts in one: MdB. -/
import Derived.Test.YtackifnnhjbgbaaQFnFrameOwn21
namespace Go.Proofs.Ytackifnnhjbgbaa
set_option linter.unusedVariables false
set_option linter.unusedSimpArgs false
set_option maxRecDepth 100000
set_option maxHeartbeats 8000000
section
open Go.RowKit
def dI (s : ByteArray) (n : Nat) : List Int := (List.range n).map (fun j => (ao s j : Int))
theorem dl (s : ByteArray) (n : Nat) : (dI s n).length = n := by unfold dI; simp
theorem eO (s : ByteArray) (c : Nat) : ∀ i, (dI s i).countP (fun z => decide (z < (c : Int))) = dv s c i
 | 0 => rfl
 | i + 1 => by
  have ih := eO s c i
  unfold dI at ih ⊢
  rw [List.range_succ, List.map_append, List.countP_append, ih]
  show _ = dv s c i + (if ao s i < c then 1 else 0)
  rw [Nat.add_left_cancel_iff]
  simp only [List.map_cons, List.map_nil, List.countP_singleton, decide_eq_true_eq]
  by_cases h : ao s i < c
  ·rw [if_pos h, if_pos (by omega)]
  ·rw [if_neg h, if_neg (by omega)]
theorem gO {d : Array Int} {n : Nat} (h : d.size = n) : d.extract 0 n = d := by subst h; exact Array.extract_size
theorem gv {s : ByteArray} {d : Array Int} {n : Nat} (hn : n = s.size) (h1 : 1 ≤ n) (hd : d.size = n) (hP : d.toList.Perm (dI s n)) (hS : Sort.SortedIn Sort.ltInt 0 n d) :
  ∃ k : Nat, d[(n - 1) / 2]! = (k : Int) ∧ k < 256 ∧ gL s k := by
 obtain ⟨m, hm⟩ : ∃ m, m = (n - 1) / 2 := ⟨_, rfl⟩
 rw [← hm]
 have hmn : m < n := by omega
 have hat : ∀ i (hi : i < n), d[i]! = d.toList[i]'(by rw [Array.length_toList]; omega) := fun i hi => by
  rw [getElem!_pos d i (by omega)]; rfl
 have hmem : d[m]! ∈ dI s n := by
  rw [hat m hmn]
  exact hP.subset (List.getElem_mem _)
 obtain ⟨j, hj, e⟩ := List.mem_map.1 hmem
 have hb := dU s j
 refine ⟨ao s j, e.symm, hb, ?_⟩
 obtain ⟨k, hk⟩ : ∃ k, k = ao s j := ⟨_, rfl⟩
 rw [← hk] at e ⊢
 have hc : ∀ c, cLt s c = d.toList.countP (fun z => decide (z < (c : Int))) := fun c => by
  rw [fo, ← hn, ← eO, hP.countP_eq]
 have hle : ∀ i q, i ≤ q → q < n → d[i]! ≤ d[q]! := fun i q h1 h2 => by
  rcases Nat.lt_or_ge i q with c | c
  ·have := hS i q (Nat.zero_le _) c h2
   unfold Sort.ltInt at this
   have := of_decide_eq_false this
   omega
  ·rw [show i = q by omega]; exact Int.le_refl _
 have hlen : d.toList.length = n := by rw [Array.length_toList]; exact hd
 constructor
 ·rw [hc]
  have h2 : (d.toList.take (m + 1)).countP (fun z => decide (z < ((k + 1 : Nat) : Int))) = m + 1 := by
   rw [List.countP_eq_length.2]
   ·rw [List.length_take, hlen]; omega
   ·intro z hz
    obtain ⟨i, hi, rfl⟩ := List.getElem_of_mem hz
    rw [List.length_take, hlen] at hi
    rw [List.getElem_take, ← hat i (by omega)]
    have := hle i m (by omega) hmn
    exact decide_eq_true (by omega)
  have h3 : (d.toList.take (m + 1)).countP (fun z => decide (z < ((k + 1 : Nat) : Int))) ≤ d.toList.countP (fun z => decide (z < ((k + 1 : Nat) : Int))) := by
   conv => rhs; rw [← List.take_append_drop (m + 1) d.toList, List.countP_append]
   omega
  omega
 ·intro c hck
  rw [hc]
  have h2 : (d.toList.drop m).countP (fun z => decide (z < ((c + 1 : Nat) : Int))) = 0 := by
   rw [List.countP_eq_zero]
   intro z hz
   obtain ⟨i, hi, rfl⟩ := List.getElem_of_mem hz
   rw [List.length_drop, hlen] at hi
   rw [List.getElem_drop, ← hat (m + i) (by omega)]
   have := hle m (m + i) (by omega) (by omega)
   simp
   omega
  have h3 : (d.toList.take m).countP (fun z => decide (z < ((c + 1 : Nat) : Int))) ≤ m := by
   refine Nat.le_trans List.countP_le_length ?_
   rw [List.length_take]; omega
  have h4 : d.toList.countP (fun z => decide (z < ((c + 1 : Nat) : Int))) = (d.toList.take m).countP (fun z => decide (z < ((c + 1 : Nat) : Int))) + (d.toList.drop m).countP (fun z => decide (z < ((c + 1 : Nat) : Int))) := by
   conv => lhs; rw [← List.take_append_drop m d.toList, List.countP_append]
  omega
theorem jx {w : World} {g n : Nat} {s : ByteArray} (h : bh w g n (fun j => (ao s j : Int))) (hg : g < w.heap.size) : aN w g (dI s n).toArray w := by
 refine ⟨fQ _ _, hg, fun j hj => ?_, fun j hj => ?_⟩
 ·have hj2 : j < n := by simpa [dl] using hj
  rw [(h j hj2).1]
  have e : (dI s n)[j]? = some (ao s j : Int) := by
   unfold dI
   rw [List.getElem?_map, List.getElem?_range hj2]
   rfl
  rw [getElem!_def, List.getElem?_toArray, e]
 ·have hj2 : j < n := by simpa [dl] using hj
  exact (h j hj2).2
theorem ee (wd ht : Int) (s : ByteArray) (w : World) (hs : s.size ≤ maxLen) :
  Calls Try.prog 8 #[.agg #[.int .i64 wd, .int .i64 ht, .string s]] w fun e w' => (∃ v, e = .returned (.int .i64 v) ∧ gf wd ht s v) ∧ Below w.heap.size w w' := by
 have A0 := yz (al w [.int .i64 wd, .int .i64 ht, .string s] 26)
 have B0 := yz (an w (.cells #[.int .i64 wd, .int .i64 ht, .string s] 26))
 go_enter Try.func8, Try.ntmps8
 go_wp2_with fail
 generalize w.alloc (.cells #[.int .i64 wd, .int .i64 ht, .string s] 26) = W0 at *
 refine (bc wd ht s _).mono ?_
 rintro e W1 ⟨rfl, hx⟩
 have A1 := yz ((yx A0).kept hx)
 have B1 := yz (aj (yx B0) hx)
 clear hx A0 B0
 cases hf : av wd ht s
 ·go_wp2_with fail
  go_ret
  exact ⟨⟨0, rfl, .inl ⟨hf, rfl⟩⟩, yx B1⟩
 obtain ⟨f1, f2, f3, f4, f5⟩ := au.1 hf
 have hn9 : s.size ≤ 192 := dD f1 f2 f3 f4 f5
 have hn1 : 1 ≤ s.size := ea f1 f3 f5
 have HF := yz hf
 clear hf f1 f2 f3 f4 f5 hs
 obtain ⟨cap, W2, hcv, hR, hB, hz⟩ := fn s W1
 have c2 := (yx A1).cell 2 _ rfl
 have HS := yz (jx hR (show W1.heap.size < W2.heap.size by omega))
 have HB := yz hB
 have hg0 : w.heap.size ≤ W1.heap.size := (yx B1).size
 obtain ⟨g, hg⟩ : ∃ g, g = W1.heap.size := ⟨_, rfl⟩
 rw [← hg] at HS hcv hg0
 have HG := yz hg
 clear hR hB hz hg
 go_wp2_with fail
 obtain ⟨n, hn⟩ : ∃ n, n = s.size := ⟨_, rfl⟩
 rw [← hn] at hn9 hn1 ⊢
 have c := yz (ik g cap n (dI s s.size).toArray W2 (by omega) (by simp [dl, hn]) (yx HS))
 refine (yx c).mono ?_
 rintro e W3 ⟨rfl, d', hS3⟩
 have hsz := hS3.size
 have hP : d'.toList.Perm (dI s n) := by
  have h := hS3.same.1.2.2
  rw [gO hsz, gO (show (dI s s.size).toArray.size = n by simp [dl, hn]), ← hn] at h
  exact h
 obtain ⟨k, hk1, hk2, hk3⟩ := gv hn hn1 hsz hP hS3.same.2
 have hgr := hS3.row.grown
 have HE := yz (((aj (yx B1) (yx HB)).trans ⟨hgr.os, hgr.tape, hgr.output, hgr.size, fun q hq => hgr.block q (Nat.lt_of_lt_of_le hq (by have := (yx HB).size; have := (yx B1).size; omega)) (fun e => by have := Option.some.inj e; omega)⟩ : Below w.heap.size w W3))
 obtain ⟨m, hm⟩ : ∃ m, m = (n - 1) / 2 := ⟨_, rfl⟩
 have cm := hS3.row.cells m (by omega)
 rw [← hm] at hk1
 rw [hk1] at cm
 have em : ((n : Int) - 1) / 2 = (m : Int) := by omega
 have hmn : m < n := by omega
 have hkz : (k : Int) < 256 := by omega
 have HK3 := yz hk3
 have HM := yz hm
 clear hS3 hsz hP hk1 hk3 hgr c HS hcv hm c2
 have hn2 := yz hn
 clear hn
 go_wp2_with fail
 go_ret
 exact ⟨⟨k, rfl, .inr ⟨yx HF, k, rfl, yx HK3⟩⟩, yx HE⟩
end
end Go.Proofs.Ytackifnnhjbgbaa
