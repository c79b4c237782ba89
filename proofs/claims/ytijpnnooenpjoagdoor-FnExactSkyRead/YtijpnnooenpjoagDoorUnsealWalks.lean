/- The walks for Unseal: the specification's and the program's functions answer the same at every text of at most 1048576 bytes. -/
import Derived.Test.YtijpnnooenpjoagDoorSeal
import Derived.Test.YtijpnnooenpjoagDoorFresh
import Derived.Deep.RegionWith
namespace Go.Proofs.YtijpnnooenpjoagDoor
open Go.RowKit

theorem bcell {W w1 : World} (hb : Below W.heap.size W w1) : (∀ b o, b < W.heap.size → w1.cell? ⟨b, o, none⟩ = W.cell? ⟨b, o, none⟩) ∧ (∀ b o, b < W.heap.size → w1.frozen? ⟨b, o, none⟩ = W.frozen? ⟨b, o, none⟩) :=
  ⟨fun b o h => hb.cell (p := ⟨b, o, none⟩) h, fun b o h => hb.frozen (p := ⟨b, o, none⟩) h⟩

def bodyOf (s : ByteArray) : ByteArray := s.extract 0 (s.size - 4)
def tailOf (s : ByteArray) : ByteArray := s.extract (s.size - 4) s.size
theorem body_size (s : ByteArray) : (s.extract 0 (s.size - 4)).size = s.size - 4 := by simp
theorem slice_tail (s : ByteArray) (h : 4 ≤ s.size) (wx : World) : (Instr.slice 9 (.string s) (some (.int .i64 ((s.size : Int) - 4))) none none).run Tryd.prog wx = .ok (.string (s.extract (s.size - 4) s.size)) wx := by
  rw [run_slice_string_from_if wx 9 s .i64 _ Tryd.underlying9, if_pos (by omega)]
  rw [show ((s.size : Int) - 4).toNat = s.size - 4 by omega]

theorem str_eq {a b : ByteArray} (h : a = b) : (a.toList == b.toList) = true := by subst h; simp
theorem str_ne {a b : ByteArray} (h : a ≠ b) : (a.toList == b.toList) = false := by
  rw [ByteArray.toList_eq, ByteArray.toList_eq]
  simp
  intro e
  exact h (ByteArray.ext e)

theorem split4 (s : ByteArray) : s.extract 0 (s.size - 4) ++ s.extract (s.size - 4) s.size = s := by
  simp
theorem tail_size (s : ByteArray) (h : 4 ≤ s.size) : (s.extract (s.size - 4) s.size).size = 4 := by simp; omega

theorem seal_iff (s : ByteArray) (h : 4 ≤ s.size) (hs : s.size ≤ 8000) : sealOf (s.extract 0 (s.size - 4)) = s ↔ four (crcOf 0 (s.extract 0 (s.size - 4)) : Nat) = s.extract (s.size - 4) s.size := by
  have hb := body_size s
  have hx := split4 s
  generalize s.extract 0 (s.size - 4) = b at *
  generalize s.extract (s.size - 4) s.size = t at *
  have e : sealOf b = b ++ four (crcOf 0 b : Nat) := by simp [sealOf]; intro; omega
  rw [e]
  constructor
  · intro h1
    rw [← hx] at h1
    exact (ByteArray.append_right_inj _).1 h1
  · intro h1
    rw [h1]
    exact hx

theorem slot3 {w w1 : World} {T : TypeId} (hb : Below (w.alloc (.cells #[.string ⟨#[]⟩, .int .i64 0, .int .i64 0] T)).heap.size (w.alloc (.cells #[.string ⟨#[]⟩, .int .i64 0, .int .i64 0] T)) w1) :
    w1.cell? ⟨w.heap.size, 0, none⟩ = some (.string ⟨#[]⟩) ∧ w1.cell? ⟨w.heap.size, 1, none⟩ = some (.int .i64 0) ∧ w1.cell? ⟨w.heap.size, 2, none⟩ = some (.int .i64 0) ∧
    w1.frozen? ⟨w.heap.size, 0, none⟩ = false ∧ w1.frozen? ⟨w.heap.size, 1, none⟩ = false ∧ w1.frozen? ⟨w.heap.size, 2, none⟩ = false ∧ w.heap.size < w1.heap.size ∧ Below w.heap.size w w1 := by
  have hlt : w.heap.size < (w.alloc (.cells #[.string ⟨#[]⟩, .int .i64 0, .int .i64 0] T)).heap.size := by simp
  refine ⟨?_, ?_, ?_, ?_, ?_, ?_, Nat.lt_of_lt_of_le hlt hb.size, ((Below.refl _ w).alloc (Nat.le_refl _) _).trans (hb.mono (Nat.le_of_lt hlt))⟩
  · rw [hb.cell (p := ⟨w.heap.size, 0, none⟩) hlt]; simp
  · rw [hb.cell (p := ⟨w.heap.size, 1, none⟩) hlt]; simp
  · rw [hb.cell (p := ⟨w.heap.size, 2, none⟩) hlt]; simp
  · rw [hb.frozen (p := ⟨w.heap.size, 0, none⟩) hlt]; simp
  · rw [hb.frozen (p := ⟨w.heap.size, 1, none⟩) hlt]; simp
  · rw [hb.frozen (p := ⟨w.heap.size, 2, none⟩) hlt]; simp

set_option maxHeartbeats 400000 in
theorem specUnseal_ok (s : ByteArray) (w : World) (hs : s.size ≤ 8000) (h : 4 ≤ s.size) (hq : four (crcOf 0 (s.extract 0 (s.size - 4)) : Nat) = s.extract (s.size - 4) s.size) :
    Calls Tryd.prog 55 #[.string s] w fun e w' => e = .returned (.agg #[.string (s.extract 0 (s.size - 4)), .int .i64 0, .int .i64 0]) ∧ Below w.heap.size w w' := by
  have h4 : (4 : Int) ≤ (s.size : Int) := by omega
  have h7 : (s.size : Int) - 4 ≤ (s.size : Int) := by omega
  have hwr : IntKind.i64.wrap ((s.size : Int) - 4) = (s.size : Int) - 4 := by rw [IntKind.wrap_i64]; omega
  have hn : ((s.size : Int) - 4).toNat = s.size - 4 := by omega
  have hb := body_size s
  have hc := crcOf_lt (c := 0) (s.extract 0 (s.size - 4)) (by omega)
  have h8 : (s.extract 0 (s.size - 4)).size ≤ 8000 := by omega
  have hq' := str_eq hq
  clear hq hb
  go_enter Tryd.func55, Tryd.ntmps55
  go_wp2_with fail
  go_region_with (first | (go_at_call 82; refine (l01Crc_any 0 _ _ (by omega) h8).mono ?_; rintro e w' ⟨rfl, rfl⟩) | (go_at_call 81; refine (l01Four_any _ _ hc).mono ?_; rintro e w' ⟨rfl, hb⟩))
  obtain ⟨c0, c1, c2, f0, f1, f2, hz, hB⟩ := slot3 ((Below.refl _ _).drew.trans hb)
  clear hb
  go_wp2
  exact bodyPost_ret (v := .agg #[.string (s.extract 0 (s.size - 4)), .int .i64 0, .int .i64 0]) (by simp [results, Tryd.results55, go_sem, c0, c1, c2]) rfl ⟨rfl, ((hB.setCell (by simp) _).setCell (by simp) _).setCell (by simp) _⟩

set_option maxHeartbeats 400000 in
theorem specUnseal_bad (s : ByteArray) (w : World) (hs : s.size ≤ 8000) (h : 4 ≤ s.size) (hq : four (crcOf 0 (s.extract 0 (s.size - 4)) : Nat) ≠ s.extract (s.size - 4) s.size) :
    Calls Tryd.prog 55 #[.string s] w fun e w' => e = .returned (.agg #[.string ⟨#[]⟩, .int .i64 0, .int .i64 5]) ∧ Below w.heap.size w w' := by
  have h4 : (4 : Int) ≤ (s.size : Int) := by omega
  have h7 : (s.size : Int) - 4 ≤ (s.size : Int) := by omega
  have hwr : IntKind.i64.wrap ((s.size : Int) - 4) = (s.size : Int) - 4 := by rw [IntKind.wrap_i64]; omega
  have hn : ((s.size : Int) - 4).toNat = s.size - 4 := by omega
  have hb := body_size s
  have hc := crcOf_lt (c := 0) (s.extract 0 (s.size - 4)) (by omega)
  have h8 : (s.extract 0 (s.size - 4)).size ≤ 8000 := by omega
  have hq' := str_ne hq
  clear hq hb
  go_enter Tryd.func55, Tryd.ntmps55
  go_wp2_with fail
  go_region_with (first | (go_at_call 82; refine (l01Crc_any 0 _ _ (by omega) h8).mono ?_; rintro e w' ⟨rfl, rfl⟩) | (go_at_call 81; refine (l01Four_any _ _ hc).mono ?_; rintro e w' ⟨rfl, hb⟩))
  obtain ⟨c0, c1, c2, f0, f1, f2, hz, hB⟩ := slot3 ((Below.refl _ _).drew.trans hb)
  clear hb
  go_wp2
  exact bodyPost_ret (v := .agg #[.string ⟨#[]⟩, .int .i64 0, .int .i64 5]) (by simp [results, Tryd.results55, go_sem, c0, c1, c2]) rfl ⟨rfl, ((hB.setCell (by simp) _).setCell (by simp) _).setCell (by simp) _⟩

set_option maxHeartbeats 400000 in
theorem specUnseal_sz (s : ByteArray) (w : World) (hs : s.size ≤ 1048576) (h : 8000 < s.size) :
    Calls Tryd.prog 55 #[.string s] w fun e w' => e = .returned (.agg #[.string ⟨#[]⟩, .int .i64 0, .int .i64 2]) ∧ Below w.heap.size w w' := by
  go_enter Tryd.func55, Tryd.ntmps55
  go_wp2
  exact bodyPost_ret (v := .agg #[.string ⟨#[]⟩, .int .i64 0, .int .i64 2]) (by simp [results, Tryd.results55, go_sem]) rfl ⟨rfl, (Below.refl _ _).alloc (Nat.le_refl _) _⟩

set_option maxHeartbeats 400000 in
theorem specUnseal_short (s : ByteArray) (w : World) (h : s.size < 4) :
    Calls Tryd.prog 55 #[.string s] w fun e w' => e = .returned (.agg #[.string ⟨#[]⟩, .int .i64 0, .int .i64 4]) ∧ Below w.heap.size w w' := by
  go_enter Tryd.func55, Tryd.ntmps55
  go_wp2
  exact bodyPost_ret (v := .agg #[.string ⟨#[]⟩, .int .i64 0, .int .i64 4]) (by simp [results, Tryd.results55, go_sem]) rfl ⟨rfl, (Below.refl _ _).alloc (Nat.le_refl _) _⟩

set_option maxHeartbeats 400000 in
theorem implUnseal_sz (s : ByteArray) (w : World) (hs : s.size ≤ 1048576) (h : 8000 < s.size) :
    Calls Tryd.prog 59 #[.string s] w fun e w' => e = .returned (.agg #[.string ⟨#[]⟩, .int .i64 0, .int .i64 2]) ∧ Below w.heap.size w w' := by
  go_enter Tryd.func59, Tryd.ntmps59
  go_wp2
  exact bodyPost_ret (v := .agg #[.string ⟨#[]⟩, .int .i64 0, .int .i64 2]) (by simp [results, Tryd.results59, go_sem]) rfl ⟨rfl, (Below.refl _ _).alloc (Nat.le_refl _) _⟩

set_option maxHeartbeats 400000 in
theorem implUnseal_short (s : ByteArray) (w : World) (h : s.size < 4) :
    Calls Tryd.prog 59 #[.string s] w fun e w' => e = .returned (.agg #[.string ⟨#[]⟩, .int .i64 0, .int .i64 4]) ∧ Below w.heap.size w w' := by
  go_enter Tryd.func59, Tryd.ntmps59
  go_wp2
  exact bodyPost_ret (v := .agg #[.string ⟨#[]⟩, .int .i64 0, .int .i64 4]) (by simp [results, Tryd.results59, go_sem]) rfl ⟨rfl, (Below.refl _ _).alloc (Nat.le_refl _) _⟩

set_option maxHeartbeats 400000 in
theorem implUnseal_bad (s : ByteArray) (w : World) (hs : s.size ≤ 8000) (h : 4 ≤ s.size) (hq : sealOf (s.extract 0 (s.size - 4)) ≠ s) :
    Calls Tryd.prog 59 #[.string s] w fun e w' => e = .returned (.agg #[.string ⟨#[]⟩, .int .i64 0, .int .i64 5]) ∧ Below w.heap.size w w' := by
  have hb := body_size s
  have h8 : (s.extract 0 (s.size - 4)).size ≤ 1048576 := by omega
  have hq' := str_ne hq
  clear hq hb
  go_enter Tryd.func59, Tryd.ntmps59
  go_wp2_with fail
  refine (implSeal_any _ _ h8).mono ?_
  rintro e w1 ⟨rfl, hb⟩
  obtain ⟨c0, c1, c2, f0, f1, f2, hz, hB⟩ := slot3 hb
  clear hb
  go_wp2
  exact bodyPost_ret (v := .agg #[.string ⟨#[]⟩, .int .i64 0, .int .i64 5]) (by simp [results, Tryd.results59, go_sem, c0, c1, c2]) rfl ⟨rfl, ((hB.setCell (by simp) _).setCell (by simp) _).setCell (by simp) _⟩

set_option maxHeartbeats 400000 in
theorem implUnseal_ok (s : ByteArray) (w : World) (hs : s.size ≤ 8000) (h : 4 ≤ s.size) (hq : sealOf (s.extract 0 (s.size - 4)) = s) :
    Calls Tryd.prog 59 #[.string s] w fun e w' => e = .returned (.agg #[.string (s.extract 0 (s.size - 4)), .int .i64 0, .int .i64 0]) ∧ Below w.heap.size w w' := by
  have hb := body_size s
  have h8 : (s.extract 0 (s.size - 4)).size ≤ 1048576 := by omega
  have h9 : (s.extract 0 (s.size - 4)).size ≤ 100000 := by omega
  have hq' := str_eq hq
  clear hq hb
  go_enter Tryd.func59, Tryd.ntmps59
  go_wp2_with fail
  refine (implSeal_any _ _ h8).mono ?_
  rintro e w1 ⟨rfl, hb⟩
  go_wp2_with fail
  refine (freshText_any _ _ h9).mono ?_
  rintro e w2 ⟨rfl, hb2⟩
  obtain ⟨c0, c1, c2, f0, f1, f2, hz, hB⟩ := slot3 (hb.trans (hb2.mono hb.size))
  clear hb hb2
  go_wp2
  exact bodyPost_ret (v := .agg #[.string (s.extract 0 (s.size - 4)), .int .i64 0, .int .i64 0]) (by simp [results, Tryd.results59, go_sem, c0, c1, c2]) rfl ⟨rfl, ((hB.setCell (by simp) _).setCell (by simp) _).setCell (by simp) _⟩

theorem cells3 {w w1 : World} {T : TypeId} {v0 v1 v2 : Value} (hb : Below (w.alloc (.cells #[v0, v1, v2] T)).heap.size (w.alloc (.cells #[v0, v1, v2] T)) w1) :
    w1.cell? ⟨w.heap.size, 0, none⟩ = some v0 ∧ w1.cell? ⟨w.heap.size, 1, none⟩ = some v1 ∧ w1.cell? ⟨w.heap.size, 2, none⟩ = some v2 ∧ w.heap.size < w1.heap.size ∧ Below w.heap.size w w1 := by
  have hlt : w.heap.size < (w.alloc (.cells #[v0, v1, v2] T)).heap.size := by simp
  refine ⟨?_, ?_, ?_, Nat.lt_of_lt_of_le hlt hb.size, ((Below.refl _ w).alloc (Nat.le_refl _) _).trans (hb.mono (Nat.le_of_lt hlt))⟩
  · rw [hb.cell (p := ⟨w.heap.size, 0, none⟩) hlt]; simp
  · rw [hb.cell (p := ⟨w.heap.size, 1, none⟩) hlt]; simp
  · rw [hb.cell (p := ⟨w.heap.size, 2, none⟩) hlt]; simp

/-- what both Unseal answer -/
theorem unseal_both (s : ByteArray) (hs : s.size ≤ 1048576) : ∃ (t : ByteArray) (c : Int),
    (∀ w, Calls Tryd.prog 55 #[.string s] w fun e w' => e = .returned (.agg #[.string t, .int .i64 0, .int .i64 c]) ∧ Below w.heap.size w w') ∧
    (∀ w, Calls Tryd.prog 59 #[.string s] w fun e w' => e = .returned (.agg #[.string t, .int .i64 0, .int .i64 c]) ∧ Below w.heap.size w w') := by
  by_cases h1 : 8000 < s.size
  · exact ⟨_, _, fun w => specUnseal_sz s w hs h1, fun w => implUnseal_sz s w hs h1⟩
  by_cases h2 : s.size < 4
  · exact ⟨_, _, fun w => specUnseal_short s w h2, fun w => implUnseal_short s w h2⟩
  have h8 : s.size ≤ 8000 := by omega
  have h4 : 4 ≤ s.size := by omega
  by_cases h3 : sealOf (s.extract 0 (s.size - 4)) = s
  · exact ⟨_, _, fun w => specUnseal_ok s w h8 h4 ((seal_iff s h4 h8).1 h3), fun w => implUnseal_ok s w h8 h4 h3⟩
  · exact ⟨_, _, fun w => specUnseal_bad s w h8 h4 (fun e => h3 ((seal_iff s h4 h8).2 e)), fun w => implUnseal_bad s w h8 h4 h3⟩
end Go.Proofs.YtijpnnooenpjoagDoor
