/- Unseal, the program's own: what it answers, by whether its text is the Seal of all but its last four bytes. -/
import Derived.Test.YtcoibamfgcdbnaaSeal
import Derived.Test.YtcoibamfgcdbnaaFresh
namespace Go.Proofs.Ytcoibamfgcdbnaa
open Go.RowKit

theorem bcell {W w1 : World} (hb : Below W.heap.size W w1) : (∀ b o, b < W.heap.size → w1.cell? ⟨b, o, none⟩ = W.cell? ⟨b, o, none⟩) ∧ (∀ b o, b < W.heap.size → w1.frozen? ⟨b, o, none⟩ = W.frozen? ⟨b, o, none⟩) :=
  ⟨fun b o h => hb.cell (p := ⟨b, o, none⟩) h, fun b o h => hb.frozen (p := ⟨b, o, none⟩) h⟩

theorem body_size (s : ByteArray) : (s.extract 0 (s.size - 4)).size = s.size - 4 := by simp

theorem str_eq {a b : ByteArray} (h : a = b) : (a.toList == b.toList) = true := by subst h; simp

theorem str_ne {a b : ByteArray} (h : a ≠ b) : (a.toList == b.toList) = false := by
  rw [ByteArray.toList_eq, ByteArray.toList_eq]
  simp
  intro e
  exact h (ByteArray.ext e)

theorem split4 (s : ByteArray) : s.extract 0 (s.size - 4) ++ s.extract (s.size - 4) s.size = s := by
  simp

theorem tail_size (s : ByteArray) (h : 4 ≤ s.size) : (s.extract (s.size - 4) s.size).size = 4 := by simp; omega

theorem slot3 {w w1 : World} {T : TypeId} (hb : Below (w.alloc (.cells #[.string ⟨#[]⟩, .int .i64 0, .int .i64 0] T)).heap.size (w.alloc (.cells #[.string ⟨#[]⟩, .int .i64 0, .int .i64 0] T)) w1) :
    w1.cell? ⟨w.heap.size, 0, none⟩ = some (.string ⟨#[]⟩) ∧ w1.cell? ⟨w.heap.size, 1, none⟩ = some (.int .i64 0) ∧ w1.cell? ⟨w.heap.size, 2, none⟩ = some (.int .i64 0) ∧
    w1.frozen? ⟨w.heap.size, 0, none⟩ = false ∧ w1.frozen? ⟨w.heap.size, 1, none⟩ = false ∧ w1.frozen? ⟨w.heap.size, 2, none⟩ = false ∧ w.heap.size < w1.heap.size ∧ Below w.heap.size w w1 := by
  have hlt : w.heap.size < (w.alloc (.cells #[.string ⟨#[]⟩, .int .i64 0, .int .i64 0] T)).heap.size := by simp
  refine ⟨?_, ?_, ?_, ?_, ?_, ?_, Nat.lt_of_lt_of_le hlt hb.size, ((Below.refl _ w).alloc (Nat.le_refl _) _).trans (hb.mono (Nat.le_of_lt hlt))⟩
  · rw [hb.cell (p := ⟨w.heap.size, 0, none⟩) hlt]; simp
  · rw [hb.cell (p := ⟨w.heap.size, 1, none⟩) hlt]; simp
  · rw [hb.cell (p := ⟨w.heap.size, 2, none⟩) hlt]; simp
  · rw [hb.frozen (p := ⟨w.heap.size, 0, none⟩) hlt]; simp
  · rw [hb.frozen (p := ⟨w.heap.size, 1, none⟩) hlt]; simp
  · rw [hb.frozen (p := ⟨w.heap.size, 2, none⟩) hlt]; simp

theorem implUnseal_sz (s : ByteArray) (w : World) (hs : s.size ≤ 1048576) (h : 8000 < s.size) :
    Calls Try.prog 8 #[.string s] w fun e w' => e = .returned (.agg #[.string ⟨#[]⟩, .int .i64 0, .int .i64 2]) ∧ Below w.heap.size w w' := by
  go_enter Try.func8, Try.ntmps8
  go_wp2
  exact bodyPost_ret (v := .agg #[.string ⟨#[]⟩, .int .i64 0, .int .i64 2]) (by simp [results, Try.results8, go_sem]) rfl ⟨rfl, (Below.refl _ _).alloc (Nat.le_refl _) _⟩

theorem implUnseal_short (s : ByteArray) (w : World) (h : s.size < 4) :
    Calls Try.prog 8 #[.string s] w fun e w' => e = .returned (.agg #[.string ⟨#[]⟩, .int .i64 0, .int .i64 4]) ∧ Below w.heap.size w w' := by
  go_enter Try.func8, Try.ntmps8
  go_wp2
  exact bodyPost_ret (v := .agg #[.string ⟨#[]⟩, .int .i64 0, .int .i64 4]) (by simp [results, Try.results8, go_sem]) rfl ⟨rfl, (Below.refl _ _).alloc (Nat.le_refl _) _⟩

theorem implUnseal_bad (s : ByteArray) (w : World) (hs : s.size ≤ 8000) (h : 4 ≤ s.size) (hq : sealOf (s.extract 0 (s.size - 4)) ≠ s) :
    Calls Try.prog 8 #[.string s] w fun e w' => e = .returned (.agg #[.string ⟨#[]⟩, .int .i64 0, .int .i64 5]) ∧ Below w.heap.size w w' := by
  have hb := body_size s
  have h8 : (s.extract 0 (s.size - 4)).size ≤ 1048576 := by omega
  have hq' := str_ne hq
  clear hq hb
  go_enter Try.func8, Try.ntmps8
  go_wp2_with fail
  refine (implSeal_any _ _ h8).mono ?_
  rintro e w1 ⟨rfl, hb⟩
  obtain ⟨c0, c1, c2, f0, f1, f2, hz, hB⟩ := slot3 hb
  clear hb
  go_wp2
  exact bodyPost_ret (v := .agg #[.string ⟨#[]⟩, .int .i64 0, .int .i64 5]) (by simp [results, Try.results8, go_sem, c0, c1, c2]) rfl ⟨rfl, ((hB.setCell (by simp) _).setCell (by simp) _).setCell (by simp) _⟩

theorem implUnseal_ok (s : ByteArray) (w : World) (hs : s.size ≤ 8000) (h : 4 ≤ s.size) (hq : sealOf (s.extract 0 (s.size - 4)) = s) :
    Calls Try.prog 8 #[.string s] w fun e w' => e = .returned (.agg #[.string (s.extract 0 (s.size - 4)), .int .i64 0, .int .i64 0]) ∧ Below w.heap.size w w' := by
  have hb := body_size s
  have h8 : (s.extract 0 (s.size - 4)).size ≤ 1048576 := by omega
  have h9 : (s.extract 0 (s.size - 4)).size ≤ 100000 := by omega
  have hq' := str_eq hq
  clear hq hb
  go_enter Try.func8, Try.ntmps8
  go_wp2_with fail
  refine (implSeal_any _ _ h8).mono ?_
  rintro e w1 ⟨rfl, hb⟩
  go_wp2_with fail
  refine (freshText_any _ _ h9).mono ?_
  rintro e w2 ⟨rfl, hb2⟩
  obtain ⟨c0, c1, c2, f0, f1, f2, hz, hB⟩ := slot3 (hb.trans (hb2.mono hb.size))
  clear hb hb2
  go_wp2
  exact bodyPost_ret (v := .agg #[.string (s.extract 0 (s.size - 4)), .int .i64 0, .int .i64 0]) (by simp [results, Try.results8, go_sem, c0, c1, c2]) rfl ⟨rfl, ((hB.setCell (by simp) _).setCell (by simp) _).setCell (by simp) _⟩
end Go.Proofs.Ytcoibamfgcdbnaa
