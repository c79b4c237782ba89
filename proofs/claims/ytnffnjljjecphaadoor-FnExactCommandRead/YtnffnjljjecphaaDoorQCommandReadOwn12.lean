/- Several texts in one: UnsealWalks, ReadD, Num, PutNum, SkyK, ReadM. -/
import Derived.Deep.RegionWith
import Derived.Laws.BytesArg
import Derived.Test.YtnffnjljjecphaaDoorQCommandReadOwn11
import Derived.Test.YtnffnjljjecphaaDoorQCommandReadOwn10
import Derived.Test.YtnffnjljjecphaaDoorQCommandReadOwn2
namespace Go.Proofs.YtnffnjljjecphaaDoor
open Go.RowKit

theorem bcell {W w1 : World} (hb : Below W.heap.size W w1) : (∀ b o, b < W.heap.size → w1.cell? ⟨b, o, none⟩ = W.cell? ⟨b, o, none⟩) ∧ (∀ b o, b < W.heap.size → w1.frozen? ⟨b, o, none⟩ = W.frozen? ⟨b, o, none⟩) :=
  ⟨fun b o h => hb.cell (p := ⟨b, o, none⟩) h, fun b o h => hb.frozen (p := ⟨b, o, none⟩) h⟩

def bodyOf (s : ByteArray) : ByteArray := s.extract 0 (s.size - 4)
def tailOf (s : ByteArray) : ByteArray := s.extract (s.size - 4) s.size
theorem body_size (s : ByteArray) : (s.extract 0 (s.size - 4)).size = s.size - 4 := by simp
theorem slice_tail (s : ByteArray) (h : 4 ≤ s.size) (wx : World) : (Instr.slice 9 (.string s) (some (.int .i64 ((s.size : Int) - 4))) none none).run Tryd.prog wx = .ok (.string (s.extract (s.size - 4) s.size)) wx := by
  rw [run_slice_string_from_if wx 9 s .i64 _ Tryd.underlying9, if_pos (by omega)]
  rw [show ((s.size : Int) - 4).toNat = s.size - 4 by omega]

theorem str_eq {a b : ByteArray} (h : a = b) : (a.toList == b.toList) = true := by subst h; simp
theorem str_ne {a b : ByteArray} (h : a ≠ b) : (a.toList == b.toList) = false := by
  rw [ByteArray.toList_eq, ByteArray.toList_eq]
  simp
  intro e
  exact h (ByteArray.ext e)

theorem split4 (s : ByteArray) : s.extract 0 (s.size - 4) ++ s.extract (s.size - 4) s.size = s := by
  simp
theorem tail_size (s : ByteArray) (h : 4 ≤ s.size) : (s.extract (s.size - 4) s.size).size = 4 := by simp; omega

theorem seal_iff (s : ByteArray) (h : 4 ≤ s.size) (hs : s.size ≤ 8000) : sealOf (s.extract 0 (s.size - 4)) = s ↔ four (crcOf 0 (s.extract 0 (s.size - 4)) : Nat) = s.extract (s.size - 4) s.size := by
  have hb := body_size s
  have hx := split4 s
  generalize s.extract 0 (s.size - 4) = b at *
  generalize s.extract (s.size - 4) s.size = t at *
  have e : sealOf b = b ++ four (crcOf 0 b : Nat) := by simp [sealOf]; intro; omega
  rw [e]
  constructor
  · intro h1
    rw [← hx] at h1
    exact (ByteArray.append_right_inj _).1 h1
  · intro h1
    rw [h1]
    exact hx

theorem slotU {w w1 : World} {T : TypeId} (hb : Below (w.alloc (.cells #[.string ⟨#[]⟩, .int .i64 0, .int .i64 0] T)).heap.size (w.alloc (.cells #[.string ⟨#[]⟩, .int .i64 0, .int .i64 0] T)) w1) :
    w1.cell? ⟨w.heap.size, 0, none⟩ = some (.string ⟨#[]⟩) ∧ w1.cell? ⟨w.heap.size, 1, none⟩ = some (.int .i64 0) ∧ w1.cell? ⟨w.heap.size, 2, none⟩ = some (.int .i64 0) ∧
    w1.frozen? ⟨w.heap.size, 0, none⟩ = false ∧ w1.frozen? ⟨w.heap.size, 1, none⟩ = false ∧ w1.frozen? ⟨w.heap.size, 2, none⟩ = false ∧ w.heap.size < w1.heap.size ∧ Below w.heap.size w w1 := by
  have hlt : w.heap.size < (w.alloc (.cells #[.string ⟨#[]⟩, .int .i64 0, .int .i64 0] T)).heap.size := by simp
  refine ⟨?_, ?_, ?_, ?_, ?_, ?_, Nat.lt_of_lt_of_le hlt hb.size, ((Below.refl _ w).alloc (Nat.le_refl _) _).trans (hb.mono (Nat.le_of_lt hlt))⟩
  · rw [hb.cell (p := ⟨w.heap.size, 0, none⟩) hlt]; simp
  · rw [hb.cell (p := ⟨w.heap.size, 1, none⟩) hlt]; simp
  · rw [hb.cell (p := ⟨w.heap.size, 2, none⟩) hlt]; simp
  · rw [hb.frozen (p := ⟨w.heap.size, 0, none⟩) hlt]; simp
  · rw [hb.frozen (p := ⟨w.heap.size, 1, none⟩) hlt]; simp
  · rw [hb.frozen (p := ⟨w.heap.size, 2, none⟩) hlt]; simp

set_option maxHeartbeats 400000 in
theorem specUnseal_ok (s : ByteArray) (w : World) (hs : s.size ≤ 8000) (h : 4 ≤ s.size) (hq : four (crcOf 0 (s.extract 0 (s.size - 4)) : Nat) = s.extract (s.size - 4) s.size) :
    Calls Tryd.prog 46 #[.string s] w fun e w' => e = .returned (.agg #[.string (s.extract 0 (s.size - 4)), .int .i64 0, .int .i64 0]) ∧ Below w.heap.size w w' := by
  have h4 : (4 : Int) ≤ (s.size : Int) := by omega
  have h7 : (s.size : Int) - 4 ≤ (s.size : Int) := by omega
  have hwr : IntKind.i64.wrap ((s.size : Int) - 4) = (s.size : Int) - 4 := by rw [IntKind.wrap_i64]; omega
  have hn : ((s.size : Int) - 4).toNat = s.size - 4 := by omega
  have hb := body_size s
  have hc := crcOf_lt (c := 0) (s.extract 0 (s.size - 4)) (by omega)
  have h8 : (s.extract 0 (s.size - 4)).size ≤ 8000 := by omega
  have hq' := str_eq hq
  clear hq hb
  go_enter Tryd.func46, Tryd.ntmps46
  go_wp2_with fail
  go_region_with (first | (go_at_call 78; refine (l01Crc_any 0 _ _ (by omega) h8).mono ?_; rintro e w' ⟨rfl, rfl⟩) | (go_at_call 77; refine (l01Four_any _ _ hc).mono ?_; rintro e w' ⟨rfl, hb⟩))
  obtain ⟨c0, c1, c2, f0, f1, f2, hz, hB⟩ := slotU ((Below.refl _ _).drew.trans hb)
  clear hb
  go_wp2
  exact bodyPost_ret (v := .agg #[.string (s.extract 0 (s.size - 4)), .int .i64 0, .int .i64 0]) (by simp [results, Tryd.results46, go_sem, c0, c1, c2]) rfl ⟨rfl, ((hB.setCell (by simp) _).setCell (by simp) _).setCell (by simp) _⟩

set_option maxHeartbeats 400000 in
theorem specUnseal_bad (s : ByteArray) (w : World) (hs : s.size ≤ 8000) (h : 4 ≤ s.size) (hq : four (crcOf 0 (s.extract 0 (s.size - 4)) : Nat) ≠ s.extract (s.size - 4) s.size) :
    Calls Tryd.prog 46 #[.string s] w fun e w' => e = .returned (.agg #[.string ⟨#[]⟩, .int .i64 0, .int .i64 5]) ∧ Below w.heap.size w w' := by
  have h4 : (4 : Int) ≤ (s.size : Int) := by omega
  have h7 : (s.size : Int) - 4 ≤ (s.size : Int) := by omega
  have hwr : IntKind.i64.wrap ((s.size : Int) - 4) = (s.size : Int) - 4 := by rw [IntKind.wrap_i64]; omega
  have hn : ((s.size : Int) - 4).toNat = s.size - 4 := by omega
  have hb := body_size s
  have hc := crcOf_lt (c := 0) (s.extract 0 (s.size - 4)) (by omega)
  have h8 : (s.extract 0 (s.size - 4)).size ≤ 8000 := by omega
  have hq' := str_ne hq
  clear hq hb
  go_enter Tryd.func46, Tryd.ntmps46
  go_wp2_with fail
  go_region_with (first | (go_at_call 78; refine (l01Crc_any 0 _ _ (by omega) h8).mono ?_; rintro e w' ⟨rfl, rfl⟩) | (go_at_call 77; refine (l01Four_any _ _ hc).mono ?_; rintro e w' ⟨rfl, hb⟩))
  obtain ⟨c0, c1, c2, f0, f1, f2, hz, hB⟩ := slotU ((Below.refl _ _).drew.trans hb)
  clear hb
  go_wp2
  exact bodyPost_ret (v := .agg #[.string ⟨#[]⟩, .int .i64 0, .int .i64 5]) (by simp [results, Tryd.results46, go_sem, c0, c1, c2]) rfl ⟨rfl, ((hB.setCell (by simp) _).setCell (by simp) _).setCell (by simp) _⟩

set_option maxHeartbeats 400000 in
theorem specUnseal_sz (s : ByteArray) (w : World) (hs : s.size ≤ 1048576) (h : 8000 < s.size) :
    Calls Tryd.prog 46 #[.string s] w fun e w' => e = .returned (.agg #[.string ⟨#[]⟩, .int .i64 0, .int .i64 2]) ∧ Below w.heap.size w w' := by
  go_enter Tryd.func46, Tryd.ntmps46
  go_wp2
  exact bodyPost_ret (v := .agg #[.string ⟨#[]⟩, .int .i64 0, .int .i64 2]) (by simp [results, Tryd.results46, go_sem]) rfl ⟨rfl, (Below.refl _ _).alloc (Nat.le_refl _) _⟩

set_option maxHeartbeats 400000 in
theorem specUnseal_short (s : ByteArray) (w : World) (h : s.size < 4) :
    Calls Tryd.prog 46 #[.string s] w fun e w' => e = .returned (.agg #[.string ⟨#[]⟩, .int .i64 0, .int .i64 4]) ∧ Below w.heap.size w w' := by
  go_enter Tryd.func46, Tryd.ntmps46
  go_wp2
  exact bodyPost_ret (v := .agg #[.string ⟨#[]⟩, .int .i64 0, .int .i64 4]) (by simp [results, Tryd.results46, go_sem]) rfl ⟨rfl, (Below.refl _ _).alloc (Nat.le_refl _) _⟩

set_option maxHeartbeats 400000 in
theorem implUnseal_sz (s : ByteArray) (w : World) (hs : s.size ≤ 1048576) (h : 8000 < s.size) :
    Calls Tryd.prog 51 #[.string s] w fun e w' => e = .returned (.agg #[.string ⟨#[]⟩, .int .i64 0, .int .i64 2]) ∧ Below w.heap.size w w' := by
  go_enter Tryd.func51, Tryd.ntmps51
  go_wp2
  exact bodyPost_ret (v := .agg #[.string ⟨#[]⟩, .int .i64 0, .int .i64 2]) (by simp [results, Tryd.results51, go_sem]) rfl ⟨rfl, (Below.refl _ _).alloc (Nat.le_refl _) _⟩

set_option maxHeartbeats 400000 in
theorem implUnseal_short (s : ByteArray) (w : World) (h : s.size < 4) :
    Calls Tryd.prog 51 #[.string s] w fun e w' => e = .returned (.agg #[.string ⟨#[]⟩, .int .i64 0, .int .i64 4]) ∧ Below w.heap.size w w' := by
  go_enter Tryd.func51, Tryd.ntmps51
  go_wp2
  exact bodyPost_ret (v := .agg #[.string ⟨#[]⟩, .int .i64 0, .int .i64 4]) (by simp [results, Tryd.results51, go_sem]) rfl ⟨rfl, (Below.refl _ _).alloc (Nat.le_refl _) _⟩

set_option maxHeartbeats 400000 in
theorem implUnseal_bad (s : ByteArray) (w : World) (hs : s.size ≤ 8000) (h : 4 ≤ s.size) (hq : sealOf (s.extract 0 (s.size - 4)) ≠ s) :
    Calls Tryd.prog 51 #[.string s] w fun e w' => e = .returned (.agg #[.string ⟨#[]⟩, .int .i64 0, .int .i64 5]) ∧ Below w.heap.size w w' := by
  have hb := body_size s
  have h8 : (s.extract 0 (s.size - 4)).size ≤ 1048576 := by omega
  have hq' := str_ne hq
  clear hq hb
  go_enter Tryd.func51, Tryd.ntmps51
  go_wp2_with fail
  refine (implSeal_any _ _ h8).mono ?_
  rintro e w1 ⟨rfl, hb⟩
  obtain ⟨c0, c1, c2, f0, f1, f2, hz, hB⟩ := slotU hb
  clear hb
  go_wp2
  exact bodyPost_ret (v := .agg #[.string ⟨#[]⟩, .int .i64 0, .int .i64 5]) (by simp [results, Tryd.results51, go_sem, c0, c1, c2]) rfl ⟨rfl, ((hB.setCell (by simp) _).setCell (by simp) _).setCell (by simp) _⟩

set_option maxHeartbeats 400000 in
theorem implUnseal_ok (s : ByteArray) (w : World) (hs : s.size ≤ 8000) (h : 4 ≤ s.size) (hq : sealOf (s.extract 0 (s.size - 4)) = s) :
    Calls Tryd.prog 51 #[.string s] w fun e w' => e = .returned (.agg #[.string (s.extract 0 (s.size - 4)), .int .i64 0, .int .i64 0]) ∧ Below w.heap.size w w' := by
  have hb := body_size s
  have h8 : (s.extract 0 (s.size - 4)).size ≤ 1048576 := by omega
  have h9 : (s.extract 0 (s.size - 4)).size ≤ 100000 := by omega
  have hq' := str_eq hq
  clear hq hb
  go_enter Tryd.func51, Tryd.ntmps51
  go_wp2_with fail
  refine (implSeal_any _ _ h8).mono ?_
  rintro e w1 ⟨rfl, hb⟩
  go_wp2_with fail
  refine (freshText_any _ _ h9).mono ?_
  rintro e w2 ⟨rfl, hb2⟩
  obtain ⟨c0, c1, c2, f0, f1, f2, hz, hB⟩ := slotU (hb.trans (hb2.mono hb.size))
  clear hb hb2
  go_wp2
  exact bodyPost_ret (v := .agg #[.string (s.extract 0 (s.size - 4)), .int .i64 0, .int .i64 0]) (by simp [results, Tryd.results51, go_sem, c0, c1, c2]) rfl ⟨rfl, ((hB.setCell (by simp) _).setCell (by simp) _).setCell (by simp) _⟩

theorem cells3 {w w1 : World} {T : TypeId} {v0 v1 v2 : Value} (hb : Below (w.alloc (.cells #[v0, v1, v2] T)).heap.size (w.alloc (.cells #[v0, v1, v2] T)) w1) :
    w1.cell? ⟨w.heap.size, 0, none⟩ = some v0 ∧ w1.cell? ⟨w.heap.size, 1, none⟩ = some v1 ∧ w1.cell? ⟨w.heap.size, 2, none⟩ = some v2 ∧ w.heap.size < w1.heap.size ∧ Below w.heap.size w w1 := by
  have hlt : w.heap.size < (w.alloc (.cells #[v0, v1, v2] T)).heap.size := by simp
  refine ⟨?_, ?_, ?_, Nat.lt_of_lt_of_le hlt hb.size, ((Below.refl _ w).alloc (Nat.le_refl _) _).trans (hb.mono (Nat.le_of_lt hlt))⟩
  · rw [hb.cell (p := ⟨w.heap.size, 0, none⟩) hlt]; simp
  · rw [hb.cell (p := ⟨w.heap.size, 1, none⟩) hlt]; simp
  · rw [hb.cell (p := ⟨w.heap.size, 2, none⟩) hlt]; simp

/-- what both Unseal answer -/
theorem unseal_both (s : ByteArray) (hs : s.size ≤ 1048576) : ∃ (t : ByteArray) (c : Int),
    (∀ w, Calls Tryd.prog 46 #[.string s] w fun e w' => e = .returned (.agg #[.string t, .int .i64 0, .int .i64 c]) ∧ Below w.heap.size w w') ∧
    (∀ w, Calls Tryd.prog 51 #[.string s] w fun e w' => e = .returned (.agg #[.string t, .int .i64 0, .int .i64 c]) ∧ Below w.heap.size w w') := by
  by_cases h1 : 8000 < s.size
  · exact ⟨_, _, fun w => specUnseal_sz s w hs h1, fun w => implUnseal_sz s w hs h1⟩
  by_cases h2 : s.size < 4
  · exact ⟨_, _, fun w => specUnseal_short s w h2, fun w => implUnseal_short s w h2⟩
  have h8 : s.size ≤ 8000 := by omega
  have h4 : 4 ≤ s.size := by omega
  by_cases h3 : sealOf (s.extract 0 (s.size - 4)) = s
  · exact ⟨_, _, fun w => specUnseal_ok s w h8 h4 ((seal_iff s h4 h8).1 h3), fun w => implUnseal_ok s w h8 h4 h3⟩
  · exact ⟨_, _, fun w => specUnseal_bad s w h8 h4 (fun e => h3 ((seal_iff s h4 h8).2 e)), fun w => implUnseal_bad s w h8 h4 h3⟩
end Go.Proofs.YtnffnjljjecphaaDoor

namespace Go.Proofs.YtnffnjljjecphaaDoor
open Go.RowKit
set_option linter.unusedVariables false

def unC (s : ByteArray) : Int := if 8000 < s.size then 2 else if s.size < 4 then 4 else if sealOf (s.extract 0 (s.size - 4)) = s then 0 else 5
def unT (s : ByteArray) : ByteArray := if unC s = 0 then s.extract 0 (s.size - 4) else ⟨#[]⟩
theorem unC_zero {s : ByteArray} (h : unC s = 0) : s.size ≤ 8000 ∧ 4 ≤ s.size ∧ sealOf (s.extract 0 (s.size - 4)) = s := by
  unfold unC at h
  split at h
  · cases h
  · split at h
    · cases h
    · split at h
      · rename_i h1 h2 h3
        exact ⟨by omega, by omega, h3⟩
      · cases h
def readL (s : ByteArray) : Except Int (List St) := if unC s = 0 then (match goodL (unT s) with | none => .error 3 | some L => .ok L) else .error (unC s)
def outRes (B : Nat) (r : Except Int (List St)) (e : Ending) (w' : World) : Prop := match r with
  | .error c => e = .returned (.agg #[.slice none 0 0, .int .i64 c])
  | .ok L => ∃ v, e = .returned (.agg #[v, .int .i64 0]) ∧ w'.ownsRow B 131 4 v L.length (flatSt L)
theorem unseal_any (s : ByteArray) (w : World) (hs : s.size ≤ 1048576) :
    Calls Tryd.prog 51 #[.string s] w fun e w' => e = .returned (.agg #[.string (unT s), .int .i64 0, .int .i64 (unC s)]) ∧ Below w.heap.size w w' := by
  by_cases h1 : 8000 < s.size
  · have e : unC s = 2 := by unfold unC; rw [if_pos h1]
    have e2 : unT s = ⟨#[]⟩ := by unfold unT; rw [e]; rfl
    rw [e, e2]; exact implUnseal_sz s w hs h1
  · by_cases h2 : s.size < 4
    · have e : unC s = 4 := by unfold unC; rw [if_neg h1, if_pos h2]
      have e2 : unT s = ⟨#[]⟩ := by unfold unT; rw [e]; rfl
      rw [e, e2]; exact implUnseal_short s w h2
    · by_cases h3 : sealOf (s.extract 0 (s.size - 4)) = s
      · have e : unC s = 0 := by unfold unC; rw [if_neg h1, if_neg h2, if_pos h3]
        have e2 : unT s = s.extract 0 (s.size - 4) := by unfold unT; rw [if_pos e]
        rw [e, e2]; exact implUnseal_ok s w (by omega) (by omega) h3
      · have e : unC s = 5 := by unfold unC; rw [if_neg h1, if_neg h2, if_neg h3]
        have e2 : unT s = ⟨#[]⟩ := by unfold unT; rw [e]; rfl
        rw [e, e2]; exact implUnseal_bad s w (by omega) (by omega) h3
theorem specUnseal_any (s : ByteArray) (w : World) (hs : s.size ≤ 1048576) :
    Calls Tryd.prog 46 #[.string s] w fun e w' => e = .returned (.agg #[.string (unT s), .int .i64 0, .int .i64 (unC s)]) ∧ Below w.heap.size w w' := by
  by_cases h1 : 8000 < s.size
  · have e : unC s = 2 := by unfold unC; rw [if_pos h1]
    have e2 : unT s = ⟨#[]⟩ := by unfold unT; rw [e]; rfl
    rw [e, e2]; exact specUnseal_sz s w hs h1
  · by_cases h2 : s.size < 4
    · have e : unC s = 4 := by unfold unC; rw [if_neg h1, if_pos h2]
      have e2 : unT s = ⟨#[]⟩ := by unfold unT; rw [e]; rfl
      rw [e, e2]; exact specUnseal_short s w h2
    · by_cases h3 : sealOf (s.extract 0 (s.size - 4)) = s
      · have e : unC s = 0 := by unfold unC; rw [if_neg h1, if_neg h2, if_pos h3]
        have e2 : unT s = s.extract 0 (s.size - 4) := by unfold unT; rw [if_pos e]
        rw [e, e2]; exact specUnseal_ok s w (by omega) (by omega) ((seal_iff s (by omega) (by omega)).1 h3)
      · have e : unC s = 5 := by unfold unC; rw [if_neg h1, if_neg h2, if_neg h3]
        have e2 : unT s = ⟨#[]⟩ := by unfold unT; rw [e]; rfl
        rw [e, e2]; exact specUnseal_bad s w (by omega) (by omega) (fun h => h3 ((seal_iff s (by omega) (by omega)).2 h))
theorem unT_size {s : ByteArray} (h : unC s = 0) : (unT s).size ≤ 8000 ∧ (unT s).size + 4 = s.size := by
  have := unC_zero h
  unfold unT
  rw [if_pos h]
  simp
  omega

def OutAt2 (w : World) (b : Nat) (v : Value) (c : Int) : Prop := w.cell? ⟨b, 0, none⟩ = some v ∧ w.cell? ⟨b, 1, none⟩ = some (.int .i64 c)
theorem OutAt2.kept {w w' : World} {b : Nat} {v : Value} {c : Int} (h : OutAt2 w b v c) (hB : Below w.heap.size w w') : OutAt2 w' b v c := by
  have hb := World.block_lt_of_cell? w _ h.1
  exact ⟨by rw [hB.cell (p := ⟨b, 0, none⟩) hb]; exact h.1, by rw [hB.cell (p := ⟨b, 1, none⟩) hb]; exact h.2⟩
theorem outAt2_new (w : World) (v : Value) (c : Int) (t : TypeId) : OutAt2 (w.alloc (.cells #[v, .int .i64 c] t)) w.heap.size v c := by
  constructor <;> simp
def Free2 (w : World) (b : Nat) : Prop := w.frozen? ⟨b, 0, none⟩ = false ∧ w.frozen? ⟨b, 1, none⟩ = false
theorem Free2.kept {w w' : World} {b : Nat} (h : Free2 w b) (hb : b < w.heap.size) (hB : Below w.heap.size w w') : Free2 w' b :=
  ⟨by rw [hB.frozen (p := ⟨b, 0, none⟩) hb]; exact h.1, by rw [hB.frozen (p := ⟨b, 1, none⟩) hb]; exact h.2⟩
theorem free2_new (w : World) (v : Value) (c : Int) (t : TypeId) : Free2 (w.alloc (.cells #[v, .int .i64 c] t)) w.heap.size := by
  constructor <;> simp
theorem ownsRow_less' {w : World} {B B' : Nat} {t : TypeId} {v : Value} {n m : Nat} {xs : List Value} (h : w.ownsRow B t m v n xs) (hb : B' ≤ B) : w.ownsRow B' t m v n xs := by
  obtain ⟨h1, h2⟩ := h
  refine ⟨h1, ?_⟩
  rcases h2 with h2 | ⟨g, cap, cur, e, hg, r⟩
  · exact .inl h2
  · exact .inr ⟨g, cap, cur, e, by omega, r⟩
/-- what is owned from B on stays so behind a store below B -/
theorem ownSet {w : World} {B b i : Nat} {t : TypeId} {v x : Value} {n m : Nat} {xs : List Value} (h : w.ownsRow B t m v n xs) (hb : b < B) : (w.setCell ⟨b, i, none⟩ x).ownsRow B t m v n xs := by
  obtain ⟨h1, h2⟩ := h
  refine ⟨h1, ?_⟩
  rcases h2 with h2 | ⟨g, cap, cur, e, hg, hh, r⟩
  · exact .inl h2
  · exact .inr ⟨g, cap, cur, e, hg, by rw [Below.heap_setCell _ _ _ _ (show g ≠ b by omega)]; exact hh, r⟩

end Go.Proofs.YtnffnjljjecphaaDoor

namespace Go.Proofs.YtnffnjljjecphaaDoor
open Go.RowKit

def fold (n : Int) : Nat := if n < 0 then (-2 * n - 1).toNat else (2 * n).toNat
theorem fold_le (n : Int) (h0 : -9223372036854775808 ≤ n) (h1 : n ≤ 9223372036854775807) : fold n ≤ 18446744073709551615 := by
  unfold fold; split <;> omega
def enc : Nat → Nat → List Nat
  | 0, u => [u]
  | k + 1, u => if u < 128 then [u] else (u % 128 + 128) :: enc k (u / 128)
def lim : Nat → Nat
  | 0 => 18446744073709551615
  | k + 1 => lim k / 128
theorem lim9 : lim 9 = 1 := by decide
theorem lim_step {u k : Nat} (h : u ≤ lim k) : u / 128 ≤ lim (k + 1) := Nat.div_le_div_right h
theorem lim_le (k : Nat) : lim k ≤ 18446744073709551615 := by
  induction k with
  | zero => exact Nat.le_refl _
  | succ k ih => exact Nat.le_trans (Nat.div_le_self _ _) ih
theorem enc_small (k u : Nat) (h : u < 128) : enc k u = [u] := by cases k <;> simp [enc, h]
theorem enc_more (k u : Nat) (h : ¬ u < 128) : enc (k + 1) u = (u % 128 + 128) :: enc k (u / 128) := by rw [enc, if_neg h]
/-- the text of a number -/
def numS (n : Int) : ByteArray := strOfNums ((enc 9 (fold n)).map fun b : Nat => (b : Int))
theorem enc_length (k u : Nat) : 1 ≤ (enc k u).length ∧ (enc k u).length ≤ k + 1 := by
  induction k generalizing u with
  | zero => simp [enc]
  | succ k ih =>
    unfold enc
    split
    · simp
    · have := ih (u / 128); simp; omega
theorem numS_size (n : Int) : 1 ≤ (numS n).size ∧ (numS n).size ≤ 10 := by
  have := enc_length 9 (fold n)
  simp only [numS, strOfNums_size, List.length_map]; omega
theorem or128 (u : Nat) : bits .or .u8 ((u : Int) % 256) 128 = ((u % 128 + 128 : Nat) : Int) := by
  have h := u8_or_nat (u % 256) 128 (by omega) (by omega)
  have e : ((u % 256 : Nat) : Int) = (u : Int) % 256 := by omega
  rw [e] at h
  have h2 : u % 256 ||| 128 = u % 128 + 128 := by
    apply Nat.eq_of_testBit_eq
    intro i
    rw [Nat.testBit_or]
    have a1 : (u % 128 + 128).testBit i = (2 ^ 7 * 1 + u % 2 ^ 7).testBit i := by rw [Nat.add_comm]
    have a2 : (u % 256).testBit i = (u % 2 ^ 8).testBit i := rfl
    have a3 : (128 : Nat).testBit i = decide (i = 7) := by
      have := Nat.testBit_two_pow (n := 7) (m := i); simpa [eq_comm] using this
    rw [a1, a2, a3, Nat.testBit_two_pow_mul_add _ (Nat.mod_lt _ (by omega)), Nat.testBit_mod_two_pow, Nat.testBit_mod_two_pow]
    by_cases h7 : i < 7
    · simp [h7, show i < 8 by omega, show ¬ i = 7 by omega]
    · by_cases h8 : i = 7
      · subst h8; simp
      · have : ¬ i < 8 := by omega
        simp [h7, h8, this]
        have h1 : 1 ≤ i - 7 := by omega
        have : Nat.testBit 1 (i - 7) = false := by
          rw [show (1 : Nat) = 2 ^ 0 by rfl, Nat.testBit_two_pow]; simp; omega
        exact this
  rw [h2] at h
  exact h
end Go.Proofs.YtnffnjljjecphaaDoor

namespace Go.Proofs.YtnffnjljjecphaaDoor
open Go.RowKit

theorem foldNot (n : Int) (h0 : -9223372036854775808 ≤ n) (h1 : n < 0) :
    bits .xor .u64 IntKind.u64.max (IntKind.u64.wrap (IntKind.u64.wrap n * 2)) = (fold n : Nat) := by
  have hw : ∀ m : Int, IntKind.u64.wrap m = m % 18446744073709551616 := fun m => by simp [IntKind.wrap, IntKind.bits, IntKind.signed]
  have hm : IntKind.u64.max = 18446744073709551615 := by decide
  have hx : IntKind.u64.wrap (IntKind.u64.wrap n * 2) = ((2 * n + 18446744073709551616).toNat : Nat) := by rw [hw, hw]; omega
  have hb : (2 * n + 18446744073709551616).toNat < 18446744073709551616 := by omega
  have hf : fold n = 18446744073709551615 - (2 * n + 18446744073709551616).toNat := by unfold fold; rw [if_pos h1]; omega
  rw [hm, hx, hf]
  generalize (2 * n + 18446744073709551616).toNat = x at *
  have h := u64_xor_nat 18446744073709551615 x (by omega) hb
  refine Eq.trans h ?_
  congr 1
  have hv : (BitVec.allOnes 64 ^^^ BitVec.ofNat 64 x).toNat = 18446744073709551615 - x := by
    rw [BitVec.allOnes_xor, BitVec.toNat_not, BitVec.toNat_ofNat, Nat.mod_eq_of_lt (by simpa using hb)]
  rw [BitVec.toNat_xor, BitVec.toNat_allOnes, BitVec.toNat_ofNat, Nat.mod_eq_of_lt (by simpa using hb)] at hv
  simpa using hv

set_option maxHeartbeats 400000 in
theorem specFold_any (n : Int) (w : World) (h0 : -9223372036854775808 ≤ n) (h1 : n ≤ 9223372036854775807) :
    Calls Tryd.prog 76 #[.int .i64 n] w fun e w' => e = .returned (.int .u64 (fold n : Nat)) ∧ w' = w := by
  by_cases h : n < 0
  · have HF := hide (show ((fold n : Nat) : Int) = 2 * -(n + 1) + 1 by unfold fold; rw [if_pos h]; omega)
    go_enter Tryd.func76, Tryd.ntmps76
    go_wp2
    go_ret
    exact ⟨by rw [unhide HF]; rfl, rfl⟩
  · have HF := hide (show ((fold n : Nat) : Int) = 2 * n by unfold fold; rw [if_neg h]; omega)
    have hn : 0 ≤ n := by omega
    go_enter Tryd.func76, Tryd.ntmps76
    go_wp2
    go_ret
    exact ⟨by rw [unhide HF]; rfl, rfl⟩

set_option maxHeartbeats 400000 in
theorem implFold_any (n : Int) (w : World) (h0 : -9223372036854775808 ≤ n) (h1 : n ≤ 9223372036854775807) :
    Calls Tryd.prog 81 #[.int .i64 n] w fun e w' => e = .returned (.int .u64 (fold n : Nat)) ∧ w' = w := by
  by_cases h : n < 0
  · have HF := hide (foldNot n h0 h)
    go_enter Tryd.func81, Tryd.ntmps81
    go_wp2
    go_ret
    exact ⟨by rw [← unhide HF]; rfl, rfl⟩
  · have HF := hide (show ((fold n : Nat) : Int) = n * 2 by unfold fold; rw [if_neg h]; omega)
    have hn : 0 ≤ n := by omega
    go_enter Tryd.func81, Tryd.ntmps81
    go_wp2
    go_ret
    exact ⟨by rw [unhide HF]; rfl, rfl⟩

theorem sliceNum (B k : Nat) (hk : k ≤ 9) (W : World) : (Instr.sliceAt 119 (.pointer (some ⟨B, 0, none⟩)) none (some (.int .i64 ((k : Int) + 1))) none).run Tryd.prog W = .ok (.slice (some ⟨B, 0, none⟩) (k + 1) 10) W := by
  have hl : Tryd.prog.arrayLen 119 = 10 := by kernel_rfl
  have hu : Tryd.prog.underlying 119 = some (.array (Tryd.prog.arrayLen 119) (Tryd.prog.elem 119)) := by kernel_rfl
  have hs : (Go.sizeOf (Tryd.prog.elem 119)).run Tryd.prog W = .ok 1 W := by kernel_rfl
  rw [run_sliceAt_array_h W 119 ⟨B, 0, none⟩ hu .i64 ((k : Int) + 1) (by omega) (by rw [hl]; omega), hs, hl]
  simp [Result.andThen, slicedAt, Addr.add]

theorem convNums (w : World) (T : TypeId) (Y : Array Value) (xs : List Int) (n cap : Nat) (hn : xs.length = n) (hY : Y.toList.take n = xs.map (Value.int .u8)) :
    (convert 116 9 (.slice (some ⟨w.heap.size, 0, none⟩) n cap)).run Tryd.prog (w.alloc (.cells Y T)) = .ok (.string (strOfNums xs)) (w.alloc (.cells Y T)) := by
  refine run_convert_bytes_arg (P := Tryd.prog) _ 116 5 Tryd.underlying116 Tryd.underlying5 w.heap.size 0 n cap xs hn ?_ 9 Tryd.underlying9
  intro i hi
  have hl : Y[i]? = some (.int .u8 (xs.getD i 0)) := by
    have h1 : (Y.toList.take n)[i]? = some (.int .u8 (xs.getD i 0)) := by
      rw [hY, List.getElem?_map, List.getD, List.getElem?_eq_getElem (by omega)]; rfl
    rw [List.getElem?_take_of_lt hi, Array.getElem?_toList] at h1
    exact h1
  simp [hl]

theorem take_set (C : Array Value) (k : Nat) (v : Value) (h : k < C.size) : (C.setIfInBounds k v).toList.take (k + 1) = C.toList.take k ++ [v] := by
  rw [Array.toList_setIfInBounds, List.take_add_one, List.take_set_of_le (Nat.le_refl _)]
  simp [h]

set_option maxRecDepth 100000 in
set_option maxHeartbeats 400000 in
theorem implPutNum_any (n : Int) (w : World) (h0 : -9223372036854775808 ≤ n) (h1 : n ≤ 9223372036854775807) :
    Calls Tryd.prog 45 #[.int .i64 n] w fun e w' => e = .returned (.string (numS n)) ∧ Below w.heap.size w w' := by
  have hf := fold_le n h0 h1
  go_enter Tryd.func45, Tryd.ntmps45
  go_wp2_with (go_at_call 81; refine (implFold_any _ _ h0 h1).mono ?_; rintro e w' ⟨rfl, rfl⟩)
  go_loopw [4, 5] (fun t i wr => ∃ (k u : Nat) (pre : List Nat) (C : Array Value), k ≤ 9 ∧ i = .int .i64 k ∧ t = .int .u64 u ∧ u ≤ lim k ∧ pre.length = k ∧ pre ++ enc (9 - k) u = enc 9 (fold n) ∧
      C.size = 10 ∧ C.toList.take k = pre.map (fun b : Nat => Value.int .u8 (b : Int)) ∧ wr = w.alloc (.cells C 119)) (fun _ i _ => 9 - (intOf i).toNat)
  case atStart => exact ⟨0, fold n, [], _, by omega, rfl, rfl, hf, rfl, rfl, rfl, rfl, rfl⟩
  case round =>
    obtain ⟨k, u, pre, C, hk, rfl, rfl, hu, hp, he, hC, ht, rfl⟩ := hrel
    have hul : (u : Int) ≤ 18446744073709551615 := by have := Nat.le_trans hu (lim_le k); omega
    by_cases hlt : u < 128
    · have HE := hide he
      have HT := hide ht
      have HP := hide hp
      clear he ht hp hu hf
      obtain ⟨c, hc⟩ : ∃ c, C[k]? = some c := ⟨C[k]'(by omega), by simp [show k < C.size by omega]⟩
      have hsl := sliceNum w.heap.size k hk
      have hcv := convNums w 119 (C.setIfInBounds k (.int .u8 (u : Int))) ((enc 9 (fold n)).map fun b : Nat => (b : Int)) (k + 1) 10 (by rw [← unhide HE, enc_small _ _ hlt]; simp [unhide HP]) (by rw [take_set _ _ _ (by omega), unhide HT, ← unhide HE, enc_small _ _ hlt]; simp)
      have HS := hide (show strOfNums ((enc 9 (fold n)).map fun b : Nat => (b : Int)) = numS n from rfl)
      generalize strOfNums ((enc 9 (fold n)).map fun b : Nat => (b : Int)) = S at *
      go_wp2
      go_ret
      exact ⟨by rw [← unhide HS]; rfl, (Below.refl _ _).alloc (Nat.le_refl _) _⟩
    · have hk9 : k < 9 := by
        rcases Nat.lt_or_ge k 9 with h | h
        · exact h
        · obtain rfl : k = 9 := by omega
          rw [lim9] at hu; omega
      have HU := hide (lim_step hu)
      have HE := hide he
      have HT := hide ht
      have HP := hide hp
      have HO := hide (or128 u)
      clear he ht hp hu hf
      obtain ⟨c, hc⟩ : ∃ c, C[k]? = some c := ⟨C[k]'(by omega), by simp [show k < C.size by omega]⟩
      have HN := hide (show (pre ++ [u % 128 + 128]) ++ enc (9 - (k + 1)) (u / 128) = enc 9 (fold n) by rw [← unhide HE, show 9 - k = (9 - (k + 1)) + 1 by omega, enc_more _ _ hlt]; simp)
      have HK := hide (show (C.setIfInBounds k (.int .u8 ((u % 128 + 128 : Nat) : Int))).toList.take (k + 1) = (pre ++ [u % 128 + 128]).map (fun b : Nat => Value.int .u8 (b : Int)) by rw [take_set _ _ _ (by omega), unhide HT]; simp)
      go_wp2
      go_roundw
      case rel => exact ⟨k + 1, u / 128, pre ++ [u % 128 + 128], C.setIfInBounds k (.int .u8 ((u % 128 + 128 : Nat) : Int)), by omega, by go_num, by go_num, unhide HU, by simp [unhide HP], unhide HN, by simp [hC], unhide HK, by rw [unhide HO]⟩
      case measure => simp [intOf]; omega

theorem infoB : (Tryd.prog.info? 5).map (fun i => (i.zero, i.size, i.bytes)) = some (some (.int .u8 0), 1, 1) := by kernel_rfl

theorem owns_form {w : World} {base size n : Nat} {e : TypeId} {v : Value} {xs : List Value} (h : w.ownsRow base e size v n xs) (hn : 0 < n) : ∃ g cap, v = .slice (some ⟨g, 0, none⟩) n cap := by
  rcases h.2 with ⟨_, h0⟩ | ⟨g, cap, _, hv, _⟩
  · omega
  · exact ⟨g, cap, hv⟩

theorem convOwned {w : World} {base g n cap : Nat} {xs : List Int} (h : w.ownsRow base 5 1 (.slice (some ⟨g, 0, none⟩) n cap) n (xs.map (Value.int .u8))) :
    (convert 116 9 (.slice (some ⟨g, 0, none⟩) n cap)).run Tryd.prog w = .ok (.string (strOfNums xs)) w := by
  have hl : xs.length = n := by have := h.1; simpa using this
  refine run_convert_bytes_arg (P := Tryd.prog) _ 116 5 Tryd.underlying116 Tryd.underlying5 g 0 n cap xs hl ?_ 9 Tryd.underlying9
  intro i hi
  rw [Nat.zero_add, h.cellAt i (by omega), List.getElem?_map, List.getD, List.getElem?_eq_getElem (by omega)]
  rfl

set_option maxRecDepth 100000 in
set_option maxHeartbeats 400000 in
theorem specPutNum_any (n : Int) (w : World) (h0 : -9223372036854775808 ≤ n) (h1 : n ≤ 9223372036854775807) :
    Calls Tryd.prog 38 #[.int .i64 n] w fun e w' => e = .returned (.string (numS n)) ∧ Below w.heap.size w w' := by
  have hf := fold_le n h0 h1
  obtain ⟨i0, hi, hz0, hz1, hz2⟩ := info_parts infoB
  go_enter Tryd.func38, Tryd.ntmps38
  go_wp2_with (go_at_call 76; refine (specFold_any _ _ h0 h1).mono ?_; rintro e w' ⟨rfl, hw⟩; obtain rfl := hw.symm)
  go_loopw [3, 4] (fun t v wr => ∃ (k u : Nat) (pre : List Nat), k ≤ 9 ∧ t = .int .u64 u ∧ u ≤ lim k ∧ pre.length = k ∧ pre ++ enc (9 - k) u = enc 9 (fold n) ∧
      wr.ownsRow w.heap.size 5 1 v k ((pre.map fun b : Nat => (b : Int)).map (Value.int .u8)) ∧ Below w.heap.size w wr) (fun t _ _ => (intOf t).toNat)
  case atStart => exact ⟨0, fold n, [], by omega, rfl, hf, rfl, rfl, World.ownsRow_lit w #[] 0 (Nat.le_refl _) (by simp [maxLen]) rfl, (Below.refl _ _).alloc (Nat.le_refl _) _⟩
  case round =>
    obtain ⟨k, u, pre, hk, rfl, hu, hp, he, hown, hB⟩ := hrel
    have hul : (u : Int) ≤ 18446744073709551615 := by have := Nat.le_trans hu (lim_le k); omega
    have hsz := hB.size
    by_cases hlt : u < 128
    · have HE := hide he
      have HP := hide hp
      clear he hp hu hf
      go_wp2_with (at_builtin; refine wpList_append_own _ rfl _ _ 116 rfl w.heap.size 5 i0 (.int .u8 0) 1 1 Tryd.underlying116 hi hz0 hz1 hz2 rfl (by decide) _ _ _ rfl (hown.alloc _) ⟨wr.heap.size, 0, none⟩ 1 1 [.int .u8 (u : Int)] rfl rfl ?c1 ?c2 ?c3 ?c4 ?c5 ?_)
      case c1 =>
        intro j x hj
        match j, hj with
        | 0, hj => simp at hj; subst hj; simp [Addr.add]
      case c2 => intro x hx; simp at hx; subst hx; rfl
      case c3 => unfold maxLen; omega
      case c4 => omega
      case c5 => simp; omega
      intro v' w1 hown' hgrow _
      have hB1 : Below w.heap.size w w1 := (hB.alloc hsz _).grown hgrow (by simp; omega) (fun j hj => (hown.lt j hj).1)
      have hx : List.map (Value.int IntKind.u8 ∘ fun b : Nat => (b : Int)) pre ++ [Value.int IntKind.u8 (u : Int)] = ((enc 9 (fold n)).map fun b : Nat => (b : Int)).map (Value.int .u8) := by rw [← unhide HE, enc_small _ _ hlt]; simp
      rw [hx] at hown'
      obtain ⟨g, cap, hv⟩ := owns_form hown' (by omega)
      rw [hv] at hown' ⊢
      have hcv := convOwned hown'
      have HS := hide (show strOfNums ((enc 9 (fold n)).map fun b : Nat => (b : Int)) = numS n from rfl)
      generalize strOfNums ((enc 9 (fold n)).map fun b : Nat => (b : Int)) = S at *
      clear hx hown hown' hgrow hB hi hz0 hz1 hz2 hv
      go_wp2
      go_ret
      exact ⟨by rw [← unhide HS]; rfl, hB1⟩
    · have hk9 : k < 9 := by
        rcases Nat.lt_or_ge k 9 with h | h
        · exact h
        · obtain rfl : k = 9 := by omega
          rw [lim9] at hu; omega
      have HU := hide (lim_step hu)
      have HE := hide he
      have HP := hide hp
      clear he hp hu hf
      go_wp2_with (at_builtin; refine wpList_append_own _ rfl _ _ 116 rfl w.heap.size 5 i0 (.int .u8 0) 1 1 Tryd.underlying116 hi hz0 hz1 hz2 rfl (by decide) _ _ _ rfl (hown.alloc _) ⟨wr.heap.size, 0, none⟩ 1 1 [.int .u8 ((u : Int) % 128 + 128)] rfl rfl ?c1 ?c2 ?c3 ?c4 ?c5 ?_)
      case c1 =>
        intro j x hj
        match j, hj with
        | 0, hj => simp at hj; subst hj; simp [Addr.add]
      case c2 => intro x hx; simp at hx; subst hx; rfl
      case c3 => unfold maxLen; omega
      case c4 => omega
      case c5 => simp; omega
      intro v' w1 hown' hgrow _
      have hB1 : Below w.heap.size w w1 := (hB.alloc hsz _).grown hgrow (by simp; omega) (fun j hj => (hown.lt j hj).1)
      have hx : List.map (Value.int IntKind.u8 ∘ fun b : Nat => (b : Int)) pre ++ [Value.int IntKind.u8 ((u : Int) % 128 + 128)] = ((pre ++ [u % 128 + 128]).map fun b : Nat => (b : Int)).map (Value.int .u8) := by simp
      rw [hx] at hown'
      have HN := hide (show (pre ++ [u % 128 + 128]) ++ enc (9 - (k + 1)) (u / 128) = enc 9 (fold n) by rw [← unhide HE, show 9 - k = (9 - (k + 1)) + 1 by omega, enc_more _ _ hlt]; simp)
      have HO := hide hown'
      clear hx hown hown' hgrow hB
      go_wp2
      go_roundw
      case rel => exact ⟨k + 1, u / 128, pre ++ [u % 128 + 128], by omega, by go_num, unhide HU, by simp [unhide HP], unhide HN, unhide HO, hB1⟩
      case measure => simp [intOf]; omega
end Go.Proofs.YtnffnjljjecphaaDoor

namespace Go.Proofs.YtnffnjljjecphaaDoor
open Go.RowKit Go.Sort
set_option linter.unusedVariables false

def starB (s : St) : ByteArray := numS s.1 ++ numS s.2.1 ++ numS s.2.2.1 ++ numS s.2.2.2
def skyTo (L : List St) : Nat → ByteArray
  | 0 => numS (L.length : Int)
  | k + 1 => skyTo L k ++ starB (stA L k)
def skyS (L : List St) : ByteArray := if skyB L = true then sealOf (skyTo L L.length) else ⟨#[]⟩
theorem starB_size (s : St) : (starB s).size ≤ 40 := by
  have h1 := (numS_size s.1).2
  have h2 := (numS_size s.2.1).2
  have h3 := (numS_size s.2.2.1).2
  have h4 := (numS_size s.2.2.2).2
  unfold starB
  simp only [ByteArray.size_append]
  omega
theorem skyTo_size (L : List St) (k : Nat) : (skyTo L k).size ≤ 10 + 40 * k := by
  induction k with
  | zero => exact (numS_size _).2
  | succ k ih =>
    have := starB_size (stA L k)
    unfold skyTo
    rw [ByteArray.size_append]
    omega
theorem ok_bounds {L : List St} {i : Nat} {s1 s2 s3 s4 : Int} (hs : stA L i = (s1, s2, s3, s4)) (h : okAt L i = true) : (1 ≤ s1 ∧ s1 ≤ 9999) ∧ (-10 ≤ s2 ∧ s2 ≤ 10) ∧ (-10 ≤ s3 ∧ s3 ≤ 10) ∧ (-10 ≤ s4 ∧ s4 ≤ 10) := by
  have hsm := ok_small h
  unfold okAt idB at h
  rw [hs] at h hsm
  simp only [Bool.and_eq_true, decide_eq_true_eq] at h
  have hw := withinB_iff.1 (small_iff hsm).2
  exact ⟨⟨h.1.1.1.1, h.1.1.1.2⟩, hw.1, hw.2.1, hw.2.2⟩

end Go.Proofs.YtnffnjljjecphaaDoor

namespace Go.Proofs.YtnffnjljjecphaaDoor
open Go.RowKit Go.Sort
set_option linter.unusedVariables false

theorem fold_unf (u : Nat) : fold (unf u) = u := by
  unfold unf fold
  split <;> split <;> omega
theorem scan_dec (s : ByteArray) (p : Nat) : ∀ (k i u x q : Nat), i + k = 9 → scan s p (k + 1) i u = .ok (x, q) →
    ∃ v, x = u + v * 2 ^ (7 * i) ∧ q = p + i + (enc k v).length ∧ (i = 0 ∨ 0 < v) ∧ ∀ j, j < (enc k v).length → p + i + j < s.size ∧ byteN s (p + i + j) = (enc k v).getD j 0
  | 0, i, u, x, q, hi, h => by
    obtain rfl : i = 9 := by omega
    rw [scan] at h
    split at h
    · cases h
    split at h
    · cases h
    split at h
    · split at h
      · cases h
      · rename_i h1 h2 h3 h4
        have h := Except.ok.inj h
        have ha : x = _ := (congrArg Prod.fst h).symm
        have hb : q = _ := (congrArg Prod.snd h).symm
        refine ⟨byteN s (p + 9), ?_, ?_, ?_, ?_⟩
        · rw [ha]; simp only; rw [Nat.mod_eq_of_lt h3]
        · rw [hb]; simp [enc]
        · omega
        · intro j hj
          simp [enc] at hj
          subst hj
          simp [enc]
          omega
    · rename_i h1 h2 h3
      exact absurd (show 9 = 9 ∧ 1 < byteN s (p + 9) from ⟨rfl, by omega⟩) h2
  | k + 1, i, u, x, q, hi, h => by
    rw [scan] at h
    split at h
    · cases h
    split at h
    · cases h
    split at h
    · split at h
      · cases h
      · rename_i h1 h2 h3 h4
        have h := Except.ok.inj h
        have ha : x = _ := (congrArg Prod.fst h).symm
        have hb : q = _ := (congrArg Prod.snd h).symm
        refine ⟨byteN s (p + i), ?_, ?_, ?_, ?_⟩
        · rw [ha]; simp only; rw [Nat.mod_eq_of_lt h3]
        · rw [hb, enc_small _ _ h3]; simp
        · omega
        · rw [enc_small _ _ h3]
          intro j hj
          simp at hj
          subst hj
          simp
          omega
    · rename_i h1 h2 h3
      obtain ⟨v, e1, e2, e3, e4⟩ := scan_dec s p k (i + 1) _ x q (by omega) h
      have hv : 0 < v := by omega
      have hb := byteN_256 s (p + i)
      have hen : enc (k + 1) (v * 128 + byteN s (p + i) % 128) = byteN s (p + i) :: enc k v := by
        rw [enc_more _ _ (by omega), show (v * 128 + byteN s (p + i) % 128) % 128 + 128 = byteN s (p + i) by omega, show (v * 128 + byteN s (p + i) % 128) / 128 = v by omega]
      refine ⟨v * 128 + byteN s (p + i) % 128, ?_, ?_, .inr (by omega), ?_⟩
      · rw [e1, show 7 * (i + 1) = 7 + 7 * i by omega, Nat.pow_add, Nat.add_mul, ← Nat.mul_assoc, show (2 : Nat) ^ 7 = 128 from rfl]
        omega
      · rw [hen, e2]; simp; omega
      · rw [hen]
        intro j hj
        match j, hj with
        | 0, hj => exact ⟨by omega, by simp⟩
        | j + 1, hj =>
          have := e4 j (by simpa using hj)
          rw [show p + i + (j + 1) = p + (i + 1) + j by omega]
          exact ⟨this.1, by rw [this.2]; simp⟩
theorem ext_byte {a b : ByteArray} (h : a.size = b.size) (hb : ∀ j, j < a.size → byteN a j = byteN b j) : a = b := by
  apply ByteArray.ext
  apply Array.ext
  · exact h
  · intro i h1 h2
    have := hb i h1
    rw [byteN_lt h1, byteN_lt h2] at this
    exact UInt8.toNat_inj.1 this
theorem byteN_extract {s : ByteArray} {p q j : Nat} (hj : p + j < q) (hq : q ≤ s.size) : byteN (s.extract p q) j = byteN s (p + j) := by
  have h1 : j < (s.extract p q).size := by simp; omega
  rw [byteN_lt h1, byteN_lt (show p + j < s.size by omega)]
  rw [ByteArray.getElem_extract]
theorem numS_byte {n : Int} {j : Nat} (hj : j < (enc 9 (fold n)).length) (h : (enc 9 (fold n)).getD j 0 < 256) : byteN (numS n) j = (enc 9 (fold n)).getD j 0 := by
  have hk : j < (numS n).size := by simp only [numS, strOfNums_size, List.length_map]; exact hj
  have hd : (numS n).data.toList[j]? = some (UInt8.ofNat ((enc 9 (fold n))[j])) := by rw [numS, strOfNums_data]; simp [hj]
  have h2 : (numS n).data.toList[j]? = some (numS n)[j] := by rw [Array.getElem?_toList]; exact Array.getElem?_eq_getElem hk
  rw [h2] at hd
  rw [byteN_lt hk, Option.some.inj hd]
  rw [List.getD, List.getElem?_eq_getElem hj] at h ⊢
  simp at h ⊢
  omega
theorem scanN_text {s : ByteArray} {p : Nat} {n : Int} {q : Nat} (h : scanN s p = some (n, q)) : s.extract p q = numS n := by
  have hle := scanN_le h
  unfold scanN at h
  cases hs : scan s p 10 0 0 with
  | error c => rw [hs] at h; cases h
  | ok x =>
    obtain ⟨u, q'⟩ := x
    rw [hs] at h
    simp at h
    obtain ⟨rfl, rfl⟩ := h
    obtain ⟨v, e1, e2, e3, e4⟩ := scan_dec s p 9 0 0 u q' (by omega) hs
    simp at e1 e2
    subst e1
    have hz : (numS (unf u)).size = (enc 9 u).length := by simp only [numS, strOfNums_size, List.length_map, fold_unf]
    apply ext_byte
    · rw [hz]; simp; omega
    · intro j hj
      have hj' : j < (enc 9 u).length := by simp at hj; omega
      have := e4 j hj'
      rw [byteN_extract (by omega) hle.2, numS_byte (by rw [fold_unf]; exact hj') (by rw [fold_unf, ← this.2]; exact byteN_256 _ _), fold_unf]
      exact this.2
theorem glueT {s : ByteArray} {p q r : Nat} {A B : ByteArray} (h1 : s.extract p q = A) (h2 : s.extract q r = B) (hpq : p ≤ q) (hqr : q ≤ r) : s.extract p r = A ++ B := by
  rw [← h1, ← h2, ByteArray.extract_append_extract]
  congr 1 <;> omega
theorem read4_text {s : ByteArray} {p q : Nat} {x : St} (h : read4 s p = some (x, q)) : s.extract p q = starB x := by
  unfold read4 at h
  split at h
  · cases h
  · rename_i a p1 h1
    split at h
    · cases h
    · rename_i b p2 h2
      split at h
      · cases h
      · rename_i c p3 h3
        split at h
        · cases h
        · rename_i d p4 h4
          have e1 := scanN_le h1
          have e2 := scanN_le h2
          have e3 := scanN_le h3
          have e4 := scanN_le h4
          simp at h
          obtain ⟨rfl, rfl⟩ := h
          exact glueT (glueT (glueT (scanN_text h1) (scanN_text h2) (by omega) (by omega)) (scanN_text h3) (by omega) (by omega)) (scanN_text h4) (by omega) (by omega)
def bodyS (L : List St) : ByteArray := L.foldl (fun t x => t ++ starB x) ByteArray.empty
theorem bodyS_snoc (L : List St) (x : St) : bodyS (L ++ [x]) = bodyS L ++ starB x := by
  unfold bodyS
  rw [List.foldl_append]
  rfl
theorem readTo_text {s : ByteArray} {p : Nat} (hp : p ≤ s.size) : ∀ (k : Nat) {L : List St} {q : Nat}, readTo s p k = some (L, q) → s.extract p q = bodyS L ∧ p ≤ q
  | 0, L, q, h => by
    simp [readTo] at h
    obtain ⟨rfl, rfl⟩ := h
    refine ⟨?_, Nat.le_refl _⟩
    apply ext_byte
    · simp [bodyS]
    · intro j hj
      simp at hj
  | k + 1, L, q, h => by
    unfold readTo at h
    split at h
    · cases h
    · rename_i L' q' h'
      split at h
      · cases h
      · rename_i x q2 h2
        have e1 := readTo_text hp k h'
        have e2 := read4_le h2
        simp at h
        obtain ⟨rfl, rfl⟩ := h
        refine ⟨?_, by omega⟩
        rw [bodyS_snoc]
        exact glueT e1.1 (read4_text h2) e1.2 (by omega)
theorem skyTo_body (L : List St) : ∀ k, k ≤ L.length → skyTo L k = numS (L.length : Int) ++ bodyS (L.take k)
  | 0, _ => by
    simp [skyTo, List.take_zero, bodyS]
  | k + 1, h => by
    rw [skyTo, skyTo_body L k (by omega), List.take_succ_eq_append_getElem (by omega), bodyS_snoc, ByteArray.append_assoc]
    congr 3
    unfold stA
    rw [List.getD, List.getElem?_eq_getElem (by omega)]
    rfl
theorem readAll_text {s : ByteArray} {L : List St} {q : Nat} (h : readAll s = some (L, q)) : s.extract 0 q = skyTo L L.length ∧ q ≤ s.size := by
  unfold readAll at h
  split at h
  · cases h
  · rename_i n p h1
    split at h
    · cases h
    · rename_i hn
      have e1 := scanN_le h1
      have e2 := readTo_text e1.2 _ h
      have e3 := readTo_le e1.2 _ h
      refine ⟨?_, e3.1⟩
      rw [skyTo_body L _ (Nat.le_refl _), List.take_length]
      have hl : (L.length : Int) = n := by rw [e3.2]; omega
      rw [hl]
      exact glueT (scanN_text h1) e2.1 (by omega) e2.2
theorem sky_iff {s : ByteArray} (hu : unC s = 0) {L : List St} {q : Nat} (h : readAll (unT s) = some (L, q)) : skyS L = s ↔ q = (unT s).size ∧ skyB L = true := by
  have ht := readAll_text h
  have hz := unT_size hu
  have hc := unC_zero hu
  have he : unT s = s.extract 0 (s.size - 4) := by unfold unT; rw [if_pos hu]
  have hs : sealOf (unT s) = s := by rw [he]; exact hc.2.2
  generalize unT s = t at *
  clear h he
  have hex : t.extract 0 t.size = t := by
    apply ext_byte
    · simp
    · intro j hj
      have : j < t.size := by simpa using hj
      rw [byteN_extract (by omega) (Nat.le_refl _), Nat.zero_add]
  constructor
  · intro hS
    unfold skyS at hS
    split at hS
    · rename_i hb
      refine ⟨?_, hb⟩
      have h7 : ¬ 7996 < (skyTo L L.length).size := by
        intro h
        unfold sealOf at hS
        rw [if_pos h] at hS
        have : s.size = 0 := by rw [← hS]; rfl
        omega
      have h8 : ¬ 7996 < t.size := by omega
      have := congrArg ByteArray.size hS
      unfold sealOf at this
      rw [if_neg h7, ByteArray.size_append, four_size] at this
      have hq := congrArg ByteArray.size ht.1
      simp at hq
      omega
    · have : s.size = 0 := by rw [← hS]; rfl
      omega
  · rintro ⟨rfl, hb⟩
    unfold skyS
    rw [if_pos hb, ← ht.1, hex, hs]
end Go.Proofs.YtnffnjljjecphaaDoor
