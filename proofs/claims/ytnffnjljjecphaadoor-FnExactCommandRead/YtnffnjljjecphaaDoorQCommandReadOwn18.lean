/- Several texts in one: ReadG, GetText2, CrF. -/
import Derived.Test.YtnffnjljjecphaaDoorQCommandReadOwn12
import Derived.Test.YtnffnjljjecphaaDoorQCommandReadOwn17
import Derived.Test.YtnffnjljjecphaaDoorQCommandReadOwn10
namespace Go.Proofs.YtnffnjljjecphaaDoor
open Go.RowKit Go.Sort
set_option linter.unusedVariables false

theorem step4 (t : ByteArray) (q : Nat) : (read4 t q = none ∧ (vecRd t (numRd t q false).2.1 (numRd t q false).2.2).2.2 = true) ∨
    (read4 t q = some (((numRd t q false).1, (vecRd t (numRd t q false).2.1 (numRd t q false).2.2).1.1, (vecRd t (numRd t q false).2.1 (numRd t q false).2.2).1.2.1, (vecRd t (numRd t q false).2.1 (numRd t q false).2.2).1.2.2), (vecRd t (numRd t q false).2.1 (numRd t q false).2.2).2.1) ∧ (vecRd t (numRd t q false).2.1 (numRd t q false).2.2).2.2 = false) := by
  unfold read4
  cases h1 : scanN t q with
  | none =>
    have e1 : numRd t q false = (0, q, true) := by unfold numRd; rw [h1]; rfl
    exact .inl ⟨rfl, by rw [e1]; rfl⟩
  | some a =>
    obtain ⟨a, p1⟩ := a
    have e1 : numRd t q false = (a, p1, false) := by unfold numRd; rw [h1]; rfl
    rw [e1]
    simp only [vecRd]
    cases h2 : scanN t p1 with
    | none =>
      have e2 : numRd t p1 false = (0, p1, true) := by unfold numRd; rw [h2]; rfl
      exact .inl ⟨rfl, by rw [e2]; rfl⟩
    | some b =>
      obtain ⟨b, p2⟩ := b
      have e2 : numRd t p1 false = (b, p2, false) := by unfold numRd; rw [h2]; rfl
      rw [e2]
      simp only
      cases h3 : scanN t p2 with
      | none =>
        have e3 : numRd t p2 false = (0, p2, true) := by unfold numRd; rw [h3]; rfl
        exact .inl ⟨rfl, by rw [e3]; rfl⟩
      | some c =>
        obtain ⟨c, p3⟩ := c
        have e3 : numRd t p2 false = (c, p3, false) := by unfold numRd; rw [h3]; rfl
        rw [e3]
        simp only
        cases h4 : scanN t p3 with
        | none =>
          have e4 : numRd t p3 false = (0, p3, true) := by unfold numRd; rw [h4]; rfl
          exact .inl ⟨rfl, by rw [e4]⟩
        | some d =>
          obtain ⟨d, p4⟩ := d
          have e4 : numRd t p3 false = (d, p4, false) := by unfold numRd; rw [h4]; rfl
          exact .inr ⟨by rw [e4], by rw [e4]⟩
theorem first12 (t : ByteArray) : ∃ (c q : Nat) (bad : Bool), manyV t 0 false 12 = ((c : Int), q, bad) ∧ c ≤ 12 ∧ (bad = true → readAll t = none) ∧ (bad = false → q ≤ t.size ∧ readAll t = readTo t q c) := by
  unfold manyV readAll
  cases h : scanN t 0 with
  | none =>
    have e : numRd t 0 false = (0, 0, true) := by unfold numRd; rw [h]; rfl
    rw [e]
    exact ⟨0, 0, true, rfl, by omega, fun _ => rfl, fun h => by cases h⟩
  | some x =>
    obtain ⟨n, p⟩ := x
    have e : numRd t 0 false = (n, p, false) := by unfold numRd; rw [h]; rfl
    rw [e]
    simp only
    by_cases hn : n < 0 ∨ 12 < n
    · rw [if_neg (by omega), if_pos hn]
      exact ⟨0, p, true, rfl, by omega, fun _ => rfl, fun h => by cases h⟩
    · rw [if_pos (by omega), if_neg hn]
      refine ⟨n.toNat, p, false, by rw [Int.toNat_of_nonneg (by omega)], by omega, fun h => ?_, fun _ => ⟨(scanN_le h).2, rfl⟩⟩
      cases h
theorem vecV_le {t : ByteArray} {q : Nat} {bad : Bool} (ht : t.size ≤ 8000) (hq : q ≤ 8000) : (vecRd t q bad).2.1 ≤ 8000 :=
  numV_le ht (numV_le ht (numV_le ht hq))
theorem manyV_le {t : ByteArray} {q : Nat} {bad : Bool} {most : Int} (ht : t.size ≤ 8000) (hq : q ≤ 8000) : (manyV t q bad most).2.1 ≤ 8000 := by
  unfold manyV
  split
  · exact numV_le ht hq
  · exact numV_le ht hq
theorem belowRd {w wr w1 : World} {rb : Nat} (h : Below w.heap.size w wr) (hg : wr.grownBy w1 (some rb)) (hr : w.heap.size ≤ rb) : Below w.heap.size w w1 :=
  h.trans ⟨hg.os, hg.tape, hg.output, hg.size, fun k hk => hg.block k (Nat.lt_of_lt_of_le hk h.size) (fun e => by have := Option.some.inj e; omega)⟩
theorem ownG {w w1 : World} {B rb : Nat} {t : TypeId} {v : Value} {n m : Nat} {xs : List Value} (h : w.ownsRow B t m v n xs) (hg : w.grownBy w1 (some rb)) (hr : rb < B) : w1.ownsRow B t m v n xs :=
  h.kept hg (by
    cases hv : v.ownBlock with
    | none => exact .inl rfl
    | some k => exact .inr (fun e => by have := (h.lt k hv).1; have := Option.some.inj e; omega))
theorem OutAt2.grown {w w' : World} {b : Nat} {v : Value} {c : Int} {row : Option Nat} (h : OutAt2 w b v c) (hg : w.grownBy w' row) (hne : some b ≠ row) : OutAt2 w' b v c := ⟨hg.cell h.1 hne, hg.cell h.2 hne⟩
theorem Free2.grown {w w' : World} {b : Nat} {row : Option Nat} (h : Free2 w b) (hb : b < w.heap.size) (hg : w.grownBy w' row) (hne : some b ≠ row) : Free2 w' b := by
  have e := hg.block b hb hne
  exact ⟨by rw [World.frozen?_of_block (w := w) e]; exact h.1, by rw [World.frozen?_of_block (w := w) e]; exact h.2⟩
theorem rdAt_new (w : World) (t : ByteArray) (ty : TypeId) : RdAt (w.alloc (.cells #[.string t, .int .i64 0, .bool false] ty)) w.heap.size t 0 false := by
  refine ⟨?_, ?_, ?_, ?_, ?_⟩ <;> simp

theorem rd_two (w : World) (o : Obj) (t : ByteArray) (ty : TypeId) (o2 : Obj) : RdAt (((w.alloc o).alloc (.cells #[.string t, .int .i64 0, .bool false] ty)).alloc o2) (w.heap.size + 1) t 0 false := by
  have h : (w.alloc o).heap.size = w.heap.size + 1 := by simp
  rw [← h]
  exact (rdAt_new _ t ty).kept (below1 _ o2)
theorem own_two (w : World) (o o2 : Obj) (ty : TypeId) : (((w.alloc o).alloc o2).alloc (.cells #[] ty)).ownsRow (w.heap.size + 1 + 1) ty 4 (.slice (some ⟨w.heap.size + 1 + 1, 0, none⟩) 0 0) 0 [] := by
  have h : ((w.alloc o).alloc o2).heap.size = w.heap.size + 1 + 1 := by simp
  rw [← h]
  exact ⟨rfl, .inr ⟨_, 0, #[], rfl, Nat.le_refl _, Array.getElem?_push_size, Nat.le_refl _, Nat.zero_le _, rfl, rfl⟩⟩
theorem belowA2 {w W : World} (h : Below w.heap.size w W) (o o2 : Obj) : Below w.heap.size w ((W.alloc o).alloc o2) :=
  (h.alloc h.size o).alloc (h.alloc h.size o).size o2
theorem toNext {t : ByteArray} {p c j q q2 : Nat} {L : List St} {x : St} {b : Bool} (hj : j < c) (ht : readTo t p j = some (L, q)) (hA : readAll t = readTo t p c)
    (h : (read4 t q = none ∧ b = true) ∨ (read4 t q = some (x, q2) ∧ b = false)) :
    (b = true → readAll t = none) ∧ (b = false → q2 ≤ t.size ∧ readTo t p (j + 1) = some (L ++ [x], q2) ∧ readAll t = readTo t p c) := by
  rcases h with ⟨h, rfl⟩ | ⟨h, rfl⟩
  · have e : readTo t p (j + 1) = none := by unfold readTo; rw [ht]; simp only [h]
    exact ⟨fun _ => by rw [hA, readTo_stop e hj], fun h => by cases h⟩
  · have e : readTo t p (j + 1) = some (L ++ [x], q2) := by unfold readTo; rw [ht]; simp only [h]
    exact ⟨fun h => (by cases h), fun _ => ⟨(read4_le h).2, e, hA⟩⟩

end Go.Proofs.YtnffnjljjecphaaDoor

namespace Go.Proofs.YtnffnjljjecphaaDoor
open Go.RowKit

theorem scan_err {s : ByteArray} {p : Nat} : ∀ (k i u : Nat) (c : Int), scan s p k i u = .error c → c = 3 ∨ c = 4
  | 0, i, u, c, h => by simp [scan] at h; omega
  | k + 1, i, u, c, h => by
    rw [scan] at h
    split at h
    · simp at h; omega
    · split at h
      · simp at h; omega
      · split at h
        · split at h
          · simp at h; omega
          · simp at h
        · exact scan_err k (i + 1) _ c h

theorem textOut_of (s : ByteArray) (p : Int) (hs : s.size ≤ 8000) : ∃ (n q c : Int), getRes s p = .agg #[.int .i64 n, .int .i64 q, .int .i64 c] ∧
    ((c ≠ 0 ∧ textRes s p = .error c) ∨ (c = 0 ∧ -9223372036854775808 ≤ n ∧ n ≤ 9223372036854775807 ∧ 0 ≤ q ∧ q ≤ s.size ∧
      textRes s p = if n < 0 ∨ 8000 < n then .error 3 else if (s.size : Int) - q < n then .error 4 else .ok (s.extract q.toNat (q.toNat + n.toNat), q.toNat + n.toNat))) := by
  rw [getRes, if_neg (by omega)]
  cases hr : readRes s p with
  | error c =>
    refine ⟨0, 0, c, rfl, .inl ⟨?_, by unfold textRes; rw [hr]⟩⟩
    unfold readRes at hr
    split at hr
    · simp at hr; omega
    · have := scan_err 10 0 0 c hr; omega
  | ok x =>
    have hb := readRes_ok hr
    have hur := unf_range x.1 hb.2
    exact ⟨unf x.1, (x.2 : Int), 0, rfl, .inr ⟨rfl, hur.1, hur.2, by omega, by omega, by unfold textRes; rw [hr]; simp⟩⟩

set_option maxHeartbeats 1000000 in
theorem specGetText_small (s : ByteArray) (p : Int) (w : World) (hs : s.size ≤ 8000) (h1 : p ≤ 9223372036854775807) :
    Calls Tryd.prog 83 #[.string s, .int .i64 p] w fun e w' => e = .returned (textOut (textRes s p)) ∧ Below w.heap.size w w' := by
  obtain ⟨n, q, c, hv, hr⟩ := textOut_of s p hs
  have HC := hide (fun w => (by have := specGetNum_any s p w (by omega) h1; rw [hv] at this; exact this : Calls Tryd.prog 82 #[.string s, .int .i64 p] w fun e w' => e = .returned (.agg #[.int .i64 n, .int .i64 q, .int .i64 c]) ∧ Below w.heap.size w w'))
  clear hv
  rcases hr with ⟨hc, hr⟩ | ⟨rfl, hn1, hn2, hq0, hq1, hr⟩
  · have HR := hide hr
    have hcb : (c != 0) = true := by rw [bne_iff_ne]; exact hc
    clear hr hc
    go_enter Tryd.func83, Tryd.ntmps83
    go_wp2_with fail
    refine (unhide HC _).mono ?_
    rintro e w1 ⟨rfl, hb1⟩
    obtain ⟨c0, c1, c2, f0, f1, f2, hz, hB⟩ := slot3 hb1
    clear hb1
    go_wp2
    exact bodyPost_ret (v := .agg #[.string ⟨#[]⟩, .int .i64 0, .int .i64 c]) (by simp [results, Tryd.results83, go_sem, c0, c1, c2, hz]) rfl ⟨by rw [unhide HR]; rfl, belowA (((hB.setCell (by simp) _).setCell (by simp) _).setCell (by simp) _) (Nat.le_refl _) _⟩
  · by_cases hn : n < 0 ∨ 8000 < n
    · have HR := hide (show textRes s p = .error 3 by rw [hr, if_pos hn])
      have hn2 : n < 0 ∨ (0 ≤ n ∧ 8000 < n) := by omega
      clear hr hn
      rcases hn2 with hn0 | hn0
      all_goals
        go_enter Tryd.func83, Tryd.ntmps83
        go_wp2_with fail
        refine (unhide HC _).mono ?_
        rintro e w1 ⟨rfl, hb1⟩
        obtain ⟨c0, c1, c2, f0, f1, f2, hz, hB⟩ := slot3 hb1
        clear hb1
        go_wp2
        exact bodyPost_ret (v := .agg #[.string ⟨#[]⟩, .int .i64 0, .int .i64 3]) (by simp [results, Tryd.results83, go_sem, c0, c1, c2, hz]) rfl ⟨by rw [unhide HR]; rfl, belowA (((hB.setCell (by simp) _).setCell (by simp) _).setCell (by simp) _) (Nat.le_refl _) _⟩
    · have hn0 : 0 ≤ n := by omega
      have hn8 : n ≤ 8000 := by omega
      by_cases hsh : (s.size : Int) - q < n
      · have HR := hide (show textRes s p = .error 4 by rw [hr, if_neg hn, if_pos hsh])
        have hsh' : (s.size : Int) - n < q := by omega
        clear hr hn hsh
        go_enter Tryd.func83, Tryd.ntmps83
        go_wp2_with fail
        refine (unhide HC _).mono ?_
        rintro e w1 ⟨rfl, hb1⟩
        obtain ⟨c0, c1, c2, f0, f1, f2, hz, hB⟩ := slot3 hb1
        clear hb1
        go_wp2
        exact bodyPost_ret (v := .agg #[.string ⟨#[]⟩, .int .i64 0, .int .i64 4]) (by simp [results, Tryd.results83, go_sem, c0, c1, c2, hz]) rfl ⟨by rw [unhide HR]; rfl, belowA (((hB.setCell (by simp) _).setCell (by simp) _).setCell (by simp) _) (Nat.le_refl _) _⟩
      · obtain ⟨m, rfl⟩ : ∃ m : Nat, n = (m : Int) := ⟨n.toNat, by omega⟩
        obtain ⟨b, rfl⟩ : ∃ b : Nat, q = (b : Int) := ⟨q.toNat, by omega⟩
        have HR := hide (show textRes s p = .ok (s.extract b (b + m), b + m) by rw [hr, if_neg hn, if_neg hsh]; simp)
        have hsh' : (b : Int) ≤ (s.size : Int) - (m : Int) := by omega
        have hqm : b + m ≤ s.size := by omega
        have hqi : (b : Int) ≤ (b : Int) + (m : Int) ∧ (b : Int) + (m : Int) ≤ (s.size : Int) := by omega
        clear hr hn hsh
        go_enter Tryd.func83, Tryd.ntmps83
        go_wp2_with fail
        refine (unhide HC _).mono ?_
        rintro e w1 ⟨rfl, hb1⟩
        obtain ⟨c0, c1, c2, f0, f1, f2, hz, hB⟩ := slot3 hb1
        clear hb1
        go_wp2
        go_region
        go_wp2
        exact bodyPost_ret (v := .agg #[.string (s.extract b (b + m)), .int .i64 ((b : Int) + (m : Int)), .int .i64 0]) (by simp [results, Tryd.results83, go_sem, c0, c1, c2, hz]) rfl ⟨by rw [unhide HR]; simp [textOut], (belowA (((hB.setCell (by simp) _).setCell (by simp) _).setCell (by simp) _) (Nat.le_refl _) _).drew⟩

set_option maxHeartbeats 1000000 in
theorem specGetText_any (s : ByteArray) (p : Int) (w : World) (hs : s.size ≤ 1048576) (h1 : p ≤ 9223372036854775807) :
    Calls Tryd.prog 83 #[.string s, .int .i64 p] w fun e w' => e = .returned (getTextRes s p) ∧ Below w.heap.size w w' := by
  by_cases h8 : 8000 < s.size
  · rw [getTextRes, if_pos h8]
    have HC := hide (fun w => (by have := specGetNum_any s p w hs h1; rw [getRes, if_pos h8] at this; exact this : Calls Tryd.prog 82 #[.string s, .int .i64 p] w fun e w' => e = .returned (.agg #[.int .i64 0, .int .i64 0, .int .i64 2]) ∧ Below w.heap.size w w'))
    go_enter Tryd.func83, Tryd.ntmps83
    go_wp2_with fail
    refine (unhide HC _).mono ?_
    rintro e w1 ⟨rfl, hb1⟩
    obtain ⟨c0, c1, c2, f0, f1, f2, hz, hB⟩ := slot3 hb1
    clear hb1
    go_wp2
    exact bodyPost_ret (v := .agg #[.string ⟨#[]⟩, .int .i64 0, .int .i64 2]) (by simp [results, Tryd.results83, go_sem, c0, c1, c2, hz]) rfl ⟨rfl, belowA (((hB.setCell (by simp) _).setCell (by simp) _).setCell (by simp) _) (Nat.le_refl _) _⟩
  · rw [getTextRes, if_neg h8]
    exact specGetText_small s p w (by omega) h1

theorem getTextRes_form (s : ByteArray) (p : Int) : ∃ (t : ByteArray) (b c : Int), getTextRes s p = .agg #[.string t, .int .i64 b, .int .i64 c] := by
  unfold getTextRes
  split
  · exact ⟨_, _, _, rfl⟩
  · cases textRes s p with
    | error c => exact ⟨_, _, _, rfl⟩
    | ok x => exact ⟨_, _, _, rfl⟩
end Go.Proofs.YtnffnjljjecphaaDoor

namespace Go.Proofs.YtnffnjljjecphaaDoor
open Go.RowKit Go.Sort
set_option linter.unusedVariables false
set_option linter.unusedSimpArgs false

def textRd (t : ByteArray) (q : Nat) (bad : Bool) : ByteArray × Nat × Bool := if bad = true then (⟨#[]⟩, q, true) else match textN t q with | none => (⟨#[]⟩, q, true) | some (x, q') => (x, q', false)
theorem text_form {s : ByteArray} {q : Nat} (hs : s.size ≤ 8000) : ∃ (x : ByteArray) (y z : Int), getTextRes s (q : Int) = .agg #[.string x, .int .i64 y, .int .i64 z] ∧
    ((textN s q = none ∧ z ≠ 0) ∨ ∃ q' : Nat, textN s q = some (x, q') ∧ y = (q' : Int) ∧ z = 0) := by
  unfold getTextRes textN
  rw [if_neg (by omega)]
  cases h : textRes s (q : Int) with
  | error c =>
    refine ⟨_, _, c, rfl, .inl ⟨rfl, ?_⟩⟩
    unfold textRes at h
    have e : readRes s (q : Int) = scan s q 10 0 0 := by unfold readRes; rw [if_neg (by omega)]; rfl
    rw [e] at h
    split at h
    · rename_i c' h'
      have := scanR_err 10 0 0 h'
      simp at h
      omega
    · split at h
      · simp at h; omega
      · split at h
        · simp at h; omega
        · cases h
  | ok x => exact ⟨_, _, 0, rfl, .inr ⟨_, rfl, rfl, rfl⟩⟩
theorem tx_new {wy wn : World} {t : TypeId} (hx : Below (wy.alloc (.cells #[.string ⟨#[]⟩, .int .i64 0, .int .i64 0] t)).heap.size (wy.alloc (.cells #[.string ⟨#[]⟩, .int .i64 0, .int .i64 0] t)) wn) : Blk wn wy.heap.size [.string ⟨#[]⟩, .int .i64 0, .int .i64 0] t := (blk_new wy [.string ⟨#[]⟩, .int .i64 0, .int .i64 0] t).kept hx
theorem tx_newD {wy wn : World} {t : TypeId} (hx : Below ((wy.alloc (.cells #[.string ⟨#[]⟩, .int .i64 0, .int .i64 0] t)).drew).heap.size ((wy.alloc (.cells #[.string ⟨#[]⟩, .int .i64 0, .int .i64 0] t)).drew) wn) : Blk wn wy.heap.size [.string ⟨#[]⟩, .int .i64 0, .int .i64 0] t := (blk_new wy [.string ⟨#[]⟩, .int .i64 0, .int .i64 0] t).drewn.kept hx
theorem tx_kept {wx wn : World} {b : Nat} {t : TypeId} (h : Blk wx b [.string ⟨#[]⟩, .int .i64 0, .int .i64 0] t) (hx : Below wx.heap.size wx wn) : Blk wn b [.string ⟨#[]⟩, .int .i64 0, .int .i64 0] t := h.kept hx
theorem tx_set3 {w : World} {b : Nat} {t : TypeId} (h : Blk w b [.string ⟨#[]⟩, .int .i64 0, .int .i64 0] t) (x y z : Value) : Blk (((w.setCell ⟨b, 0, none⟩ x).setCell ⟨b, 1, none⟩ y).setCell ⟨b, 2, none⟩ z) b [x, y, z] t := ((h.set 0 x).set 1 y).set 2 z
theorem tx_at (w : World) (x : ByteArray) (y z : Int) (t : TypeId) : Blk (w.alloc (.cells #[.string x, .int .i64 y, .int .i64 z] t)) w.heap.size [.string x, .int .i64 y, .int .i64 z] t := blk_new w [.string x, .int .i64 y, .int .i64 z] t
set_option maxHeartbeats 4000000 in
set_option maxRecDepth 100000 in
theorem textRd_any (b : Nat) (t : ByteArray) (q : Nat) (bad : Bool) (w : World) (ht : t.size ≤ 8000) (hq : q ≤ 8000) (hR : RdAt w b t q bad) :
    Calls Tryd.prog 50 #[.pointer (some ⟨b, 0, none⟩)] w fun e w' => e = .returned (.string (textRd t q bad).1) ∧ RdAt w' b t (textRd t q bad).2.1 (textRd t q bad).2.2 ∧ w.grownBy w' (some b) := by
  have HR := hide hR
  clear hR
  obtain ⟨x, y, z, hg, hz⟩ := text_form (q := q) ht
  have HZ := hide hz
  have cG : Hid (∀ W : World, Calls Tryd.prog 83 #[.string t, .int .i64 (q : Int)] W fun e w' => e = .returned (.agg #[.string x, .int .i64 y, .int .i64 z]) ∧ Below W.heap.size W w') := hide (fun W => (specGetText_any t (q : Int) W (by omega) (by omega)).mono fun e w' h => ⟨by rw [h.1, hg], h.2⟩)
  clear hg hz
  go_enter Tryd.func50, Tryd.ntmps50
  go_wp2_with fail
  go_cut [3] (fun s wx => ∃ bb, s = .pointer (some ⟨bb, 0, none⟩) ∧ Blk wx bb [.string x, .int .i64 y, .int .i64 z] 80 ∧ Below w.heap.size w wx)
  case first =>
    go_region_held (fun w' => (w'.cell? ⟨b, 0, none⟩ = some (.string t) ∧ w'.cell? ⟨b, 1, none⟩ = some (.int .i64 (q : Int))) ∧ Below w.heap.size w w') (first | exact holdR (unhide HR) (Below.refl _ _).drew | exact holdR (unhide HR) (stepAlloc (by assumption) _) | exact holdR (unhide HR) (by assumption) | exact holdR (unhide HR) (stepAlloc2 (by assumption) _) | exact holdR (unhide HR) (stepSet3 (by assumption) (by first | exact Nat.le_refl _ | exact Below.size (by assumption)) _ _ _)) ((go_at_call 83; refine (unhide cG _).mono ?_; rintro e wn ⟨rfl, hx⟩; have hw := stepCall (w1 := w) hx (by assumption); first | (have hr : Blk wn w.heap.size [.string ⟨#[]⟩, .int .i64 0, .int .i64 0] 80 := tx_newD hx; have r0 := hr.cell 0 _ rfl; have r1 := hr.cell 1 _ rfl; have r2 := hr.cell 2 _ rfl; have f0 := hr.free 0; have f1 := hr.free 1; have f2 := hr.free 2) | (have hr := tx_new hx; have r0 := hr.cell 0 _ rfl; have r1 := hr.cell 1 _ rfl; have r2 := hr.cell 2 _ rfl; have f0 := hr.free 0; have f1 := hr.free 1; have f2 := hr.free 2) | (have hr := tx_kept (by assumption) hx; have r0 := hr.cell 0 _ rfl; have r1 := hr.cell 1 _ rfl; have r2 := hr.cell 2 _ rfl; have f0 := hr.free 0; have f1 := hr.free 1; have f2 := hr.free 2) | skip))
    all_goals (go_wp2_with fail; go_meet; refine ⟨_, rfl, ?_, ?_⟩)
    all_goals first | (with_reducible exact tx_at _ _ _ _ _) | (with_reducible exact stepAlloc2 (by assumption) _) | (with_reducible exact tx_set3 (by assumption) _ _ _) | (with_reducible exact below_set3' (by assumption) (by first | exact Nat.le_refl _ | exact Below.size (by assumption)) _ _ _) | trace_state
  case rest =>
    obtain ⟨bb, rfl, v5, hx⟩ := hcut
    have R2 := hide ((unhide HR).kept hx)
    have G2 := hide (grownB (b := b) hx)
    have v0 := v5.cell 0 _ rfl
    have v1 := v5.cell 1 _ rfl
    have v2 := v5.cell 2 _ rfl
    obtain ⟨c0, c1, c2, f1, f2⟩ := unhide R2
    clear hx cG v5
    cases bad
    · rcases unhide HZ with ⟨hn, hz⟩ | ⟨q', hn, rfl, rfl⟩
      · have HV : Hid (textRd t q false = (⟨#[]⟩, q, true)) := hide (by unfold textRd; rw [hn]; rfl)
        have hz' : (z == 0) = false := by simp [hz]
        have hz2 : (z != 0) = true := by simp [hz]
        clear hn
        go_wp2_with fail
        go_ret
        exact ⟨by rw [unhide HV]; rfl, by rw [unhide HV]; exact (unhide R2).bad true, grownSet (unhide G2) _ _⟩
      · have HV : Hid (textRd t q false = (x, q', false)) := hide (by unfold textRd; rw [hn]; rfl)
        clear hn
        go_wp2_with fail
        go_ret
        exact ⟨by rw [unhide HV]; rfl, by rw [unhide HV]; exact (unhide R2).at q', grownSet (unhide G2) _ _⟩
    · have HV : Hid (textRd t q true = (⟨#[]⟩, q, true)) := hide rfl
      go_wp2_with fail
      go_ret
      exact ⟨by rw [unhide HV]; rfl, by rw [unhide HV]; exact (unhide R2).bad true, grownSet (unhide G2) _ _⟩
end Go.Proofs.YtnffnjljjecphaaDoor
