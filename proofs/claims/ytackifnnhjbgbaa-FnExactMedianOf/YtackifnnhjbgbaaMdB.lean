/- The byte in the midst of all: the program's. -/
import Derived.Test.YtackifnnhjbgbaaMdA
namespace Go.Proofs.Ytackifnnhjbgbaa
open Go.RowKit
set_option linter.unusedVariables false
set_option linter.unusedSimpArgs false

def rowI (s : ByteArray) (n : Nat) : List Int := (List.range n).map (fun j => (byteN s j : Int))
theorem rowI_len (s : ByteArray) (n : Nat) : (rowI s n).length = n := by unfold rowI; simp
theorem count_row (s : ByteArray) (c : Nat) : ∀ i, (rowI s i).countP (fun z => decide (z < (c : Int))) = cLtI s c i
  | 0 => rfl
  | i + 1 => by
    have ih := count_row s c i
    unfold rowI at ih ⊢
    rw [List.range_succ, List.map_append, List.countP_append, ih]
    show _ = cLtI s c i + (if byteN s i < c then 1 else 0)
    rw [Nat.add_left_cancel_iff]
    simp only [List.map_cons, List.map_nil, List.countP_singleton, decide_eq_true_eq]
    by_cases h : byteN s i < c
    · rw [if_pos h, if_pos (by omega)]
    · rw [if_neg h, if_neg (by omega)]
theorem ext_all {d : Array Int} {n : Nat} (h : d.size = n) : d.extract 0 n = d := by subst h; exact Array.extract_size
theorem med_sorted {s : ByteArray} {d : Array Int} {n : Nat} (hn : n = s.size) (h1 : 1 ≤ n) (hd : d.size = n) (hP : d.toList.Perm (rowI s n)) (hS : Sort.SortedIn Sort.ltInt 0 n d) :
    ∃ k : Nat, d[(n - 1) / 2]! = (k : Int) ∧ k < 256 ∧ IsMed s k := by
  obtain ⟨m, hm⟩ : ∃ m, m = (n - 1) / 2 := ⟨_, rfl⟩
  rw [← hm]
  have hmn : m < n := by omega
  have hat : ∀ i (hi : i < n), d[i]! = d.toList[i]'(by rw [Array.length_toList]; omega) := fun i hi => by
    rw [getElem!_pos d i (by omega)]; rfl
  have hmem : d[m]! ∈ rowI s n := by
    rw [hat m hmn]
    exact hP.subset (List.getElem_mem _)
  obtain ⟨j, hj, e⟩ := List.mem_map.1 hmem
  have hb := byteN_256' s j
  refine ⟨byteN s j, e.symm, hb, ?_⟩
  obtain ⟨k, hk⟩ : ∃ k, k = byteN s j := ⟨_, rfl⟩
  rw [← hk] at e ⊢
  have hc : ∀ c, cLt s c = d.toList.countP (fun z => decide (z < (c : Int))) := fun c => by
    rw [cLt_eq, ← hn, ← count_row, hP.countP_eq]
  have hle : ∀ i q, i ≤ q → q < n → d[i]! ≤ d[q]! := fun i q h1 h2 => by
    rcases Nat.lt_or_ge i q with c | c
    · have := hS i q (Nat.zero_le _) c h2
      unfold Sort.ltInt at this
      have := of_decide_eq_false this
      omega
    · rw [show i = q by omega]; exact Int.le_refl _
  have hlen : d.toList.length = n := by rw [Array.length_toList]; exact hd
  constructor
  · rw [hc]
    have h2 : (d.toList.take (m + 1)).countP (fun z => decide (z < ((k + 1 : Nat) : Int))) = m + 1 := by
      rw [List.countP_eq_length.2]
      · rw [List.length_take, hlen]; omega
      · intro z hz
        obtain ⟨i, hi, rfl⟩ := List.getElem_of_mem hz
        rw [List.length_take, hlen] at hi
        rw [List.getElem_take, ← hat i (by omega)]
        have := hle i m (by omega) hmn
        exact decide_eq_true (by omega)
    have h3 : (d.toList.take (m + 1)).countP (fun z => decide (z < ((k + 1 : Nat) : Int))) ≤ d.toList.countP (fun z => decide (z < ((k + 1 : Nat) : Int))) := by
      conv => rhs; rw [← List.take_append_drop (m + 1) d.toList, List.countP_append]
      omega
    omega
  · intro c hck
    rw [hc]
    have h2 : (d.toList.drop m).countP (fun z => decide (z < ((c + 1 : Nat) : Int))) = 0 := by
      rw [List.countP_eq_zero]
      intro z hz
      obtain ⟨i, hi, rfl⟩ := List.getElem_of_mem hz
      rw [List.length_drop, hlen] at hi
      rw [List.getElem_drop, ← hat (m + i) (by omega)]
      have := hle m (m + i) (by omega) (by omega)
      simp
      omega
    have h3 : (d.toList.take m).countP (fun z => decide (z < ((c + 1 : Nat) : Int))) ≤ m := by
      refine Nat.le_trans List.countP_le_length ?_
      rw [List.length_take]; omega
    have h4 : d.toList.countP (fun z => decide (z < ((c + 1 : Nat) : Int))) = (d.toList.take m).countP (fun z => decide (z < ((c + 1 : Nat) : Int))) + (d.toList.drop m).countP (fun z => decide (z < ((c + 1 : Nat) : Int))) := by
      conv => lhs; rw [← List.take_append_drop m d.toList, List.countP_append]
    omega
theorem srt_new {w : World} {g n : Nat} {s : ByteArray} (h : BRow w g n (fun j => (byteN s j : Int))) (hg : g < w.heap.size) : SrtR w g (rowI s n).toArray w := by
  refine ⟨gRefl _ _, hg, fun j hj => ?_, fun j hj => ?_⟩
  · have hj2 : j < n := by simpa [rowI_len] using hj
    rw [(h j hj2).1]
    have e : (rowI s n)[j]? = some (byteN s j : Int) := by
      unfold rowI
      rw [List.getElem?_map, List.getElem?_range hj2]
      rfl
    rw [getElem!_def, List.getElem?_toArray, e]
  · have hj2 : j < n := by simpa [rowI_len] using hj
    exact (h j hj2).2
set_option maxHeartbeats 1600000 in
set_option maxRecDepth 100000 in
theorem implMedian_any (wd ht : Int) (s : ByteArray) (w : World) (hs : s.size ≤ maxLen) :
    Calls Try.prog 8 #[.agg #[.int .i64 wd, .int .i64 ht, .string s]] w fun e w' => (∃ v, e = .returned (.int .i64 v) ∧ MedR wd ht s v) ∧ Below w.heap.size w w' := by
  have A0 := hide (blk_new w [.int .i64 wd, .int .i64 ht, .string s] 26)
  have B0 := hide (below1 w (.cells #[.int .i64 wd, .int .i64 ht, .string s] 26))
  go_enter Try.func8, Try.ntmps8
  go_wp2_with fail
  generalize w.alloc (.cells #[.int .i64 wd, .int .i64 ht, .string s] 26) = W0 at *
  refine (frameRight_any wd ht s _).mono ?_
  rintro e W1 ⟨rfl, hx⟩
  have A1 := hide ((unhide A0).kept hx)
  have B1 := hide (below_call (unhide B0) hx)
  clear hx A0 B0
  cases hf : frameB wd ht s
  · go_wp2_with fail
    go_ret
    exact ⟨⟨0, rfl, .inl ⟨hf, rfl⟩⟩, unhide B1⟩
  obtain ⟨f1, f2, f3, f4, f5⟩ := frameB_iff.1 hf
  have hn9 : s.size ≤ 192 := frame_small f1 f2 f3 f4 f5
  have hn1 : 1 ≤ s.size := frame_some f1 f3 f5
  have HF := hide hf
  clear hf f1 f2 f3 f4 f5 hs
  obtain ⟨cap, W2, hcv, hR, hB, hz⟩ := bytesOf s W1
  have c2 := (unhide A1).cell 2 _ rfl
  have HS := hide (srt_new hR (show W1.heap.size < W2.heap.size by omega))
  have HB := hide hB
  have hg0 : w.heap.size ≤ W1.heap.size := (unhide B1).size
  obtain ⟨g, hg⟩ : ∃ g, g = W1.heap.size := ⟨_, rfl⟩
  rw [← hg] at HS hcv hg0
  have HG := hide hg
  clear hR hB hz hg
  go_wp2_with fail
  obtain ⟨n, hn⟩ : ∃ n, n = s.size := ⟨_, rfl⟩
  rw [← hn] at hn9 hn1 ⊢
  have c := hide (sort8_any g cap n (rowI s s.size).toArray W2 (by omega) (by simp [rowI_len, hn]) (unhide HS))
  refine (unhide c).mono ?_
  rintro e W3 ⟨rfl, d', hS3⟩
  have hsz := hS3.size
  have hP : d'.toList.Perm (rowI s n) := by
    have h := hS3.same.1.2.2
    rw [ext_all hsz, ext_all (show (rowI s s.size).toArray.size = n by simp [rowI_len, hn]), ← hn] at h
    exact h
  obtain ⟨k, hk1, hk2, hk3⟩ := med_sorted hn hn1 hsz hP hS3.same.2
  have hgr := hS3.row.grown
  have HE := hide (((below_call (unhide B1) (unhide HB)).trans ⟨hgr.os, hgr.tape, hgr.output, hgr.size, fun q hq => hgr.block q (Nat.lt_of_lt_of_le hq (by have := (unhide HB).size; have := (unhide B1).size; omega)) (fun e => by have := Option.some.inj e; omega)⟩ : Below w.heap.size w W3))
  obtain ⟨m, hm⟩ : ∃ m, m = (n - 1) / 2 := ⟨_, rfl⟩
  have cm := hS3.row.cells m (by omega)
  rw [← hm] at hk1
  rw [hk1] at cm
  have em : ((n : Int) - 1) / 2 = (m : Int) := by omega
  have hmn : m < n := by omega
  have hkz : (k : Int) < 256 := by omega
  have HK3 := hide hk3
  have HM := hide hm
  clear hS3 hsz hP hk1 hk3 hgr c HS hcv hm c2
  have hn2 := hide hn
  clear hn
  go_wp2_with fail
  go_ret
  exact ⟨⟨k, rfl, .inr ⟨unhide HF, k, rfl, unhide HK3⟩⟩, unhide HE⟩
set_option maxRecDepth 100000 in
theorem lawMedian (wd ht : Int) (s : ByteArray) (hs : s.size ≤ maxLen) (w : World) :
    Calls Try.prog 3 #[.agg #[.int .i64 wd, .int .i64 ht, .string s]] w fun e w' => e = .returned (.bool true) ∧ Below w.heap.size w w' := by
  have cZ := hide (fun W => szFrame_any wd ht s 1048576 W hs (by omega) (by omega))
  have cT := hide (fun W => toFrame_any wd ht s W)
  have cS := hide (fun W => specMedian_any wd ht s W hs)
  have cI := hide (fun W => implMedian_any wd ht s W hs)
  generalize szI 1048576 s = z at *
  have A0 := sAt_new w [.int .i64 wd, .int .i64 ht, .string s] 23
  have B0 := below1 w (.cells [.int .i64 wd, .int .i64 ht, .string s].toArray 23)
  clear hs
  go_enter Try.func3, Try.ntmps3
  go_wp2_with fail
  generalize w.alloc (.cells #[.int .i64 wd, .int .i64 ht, .string s] 23) = W1 at A0 B0 ⊢
  refine (unhide cZ _).mono ?_
  rintro e W2 ⟨rfl, hx⟩
  have A1 := A0.kept hx
  have B1 := below_call B0 hx
  clear hx A0 B0
  obtain ⟨c0, c1, c2⟩ := A1.c3
  by_cases hz : z < 0
  · go_wp2_with fail
    go_ret
    exact ⟨rfl, B1⟩
  go_wp2_with fail
  refine (unhide cT _).mono ?_
  rintro e W3 ⟨rfl, hx⟩
  have A2 := A1.kept hx
  have B2 := below_call B1 hx
  clear hx A1 B1 c0 c1 c2
  go_wp2_with fail
  refine (unhide cS _).mono ?_
  rintro e W4 ⟨⟨u, rfl, hu⟩, hx⟩
  have A3 := A2.kept hx
  have B3 := below_call B2 hx
  clear hx A2 B2
  obtain ⟨c0, c1, c2⟩ := A3.c3
  go_wp2_with fail
  refine (unhide cT _).mono ?_
  rintro e W5 ⟨rfl, hx⟩
  have B4 := below_call B3 hx
  clear hx A3 B3 c0 c1 c2
  go_wp2_with fail
  refine (unhide cI _).mono ?_
  rintro e W6 ⟨⟨v, rfl, hv⟩, hx⟩
  have B5 := below_call B4 hx
  clear hx B4
  have huv := medR_one hu hv
  subst huv
  clear hu hv
  go_wp2_with fail
  go_ret
  exact ⟨rfl, B5⟩
end Go.Proofs.Ytackifnnhjbgbaa
