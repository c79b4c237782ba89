/- Several texts in one: CrM, RowV, CrB, CrC. -/
import Derived.OwnWalk
import Derived.Laws.OwnMore
import Derived.Test.YtnffnjljjecphaaDoorQCommandReadOwn12
import Derived.Test.YtnffnjljjecphaaDoorQCommandReadOwn14
import Derived.Test.YtnffnjljjecphaaDoorQCommandReadOwn10
import Derived.Test.YtnffnjljjecphaaDoorQCommandReadOwn2
namespace Go.Proofs.YtnffnjljjecphaaDoor
open Go.RowKit Go.Sort
set_option linter.unusedVariables false

def read3 (s : ByteArray) (p : Nat) : Option (D3 × Nat) :=
  match scanN s p with
  | none => none
  | some (a, p1) => match scanN s p1 with
    | none => none
    | some (b, p2) => match scanN s p2 with
      | none => none
      | some (c, p3) => some ((a, b, c), p3)
def readVs (s : ByteArray) (p : Nat) : Nat → Option (List D3 × Nat)
  | 0 => some ([], p)
  | k + 1 => match readVs s p k with
    | none => none
    | some (L, q) => match read3 s q with
      | none => none
      | some (x, q2) => some (L ++ [x], q2)
def textN (s : ByteArray) (q : Nat) : Option (ByteArray × Nat) := match textRes s (q : Int) with | .ok x => some x | .error _ => none
def readCm (t : ByteArray) : Option (Cm × Nat) :=
  match scanN t 0 with
  | none => none
  | some (kd, q1) =>
    if kd = 2 then match read4 t q1 with
      | none => none
      | some (x, q2) => some (⟨2, x.1, x.2.1, x.2.2.1, x.2.2.2, [], 0, 0, ⟨#[]⟩, 0, 0⟩, q2)
    else if kd = 3 then match scanN t q1 with
      | none => none
      | some (m, q2) => if 0 ≤ m ∧ m ≤ 6 then match readVs t q2 m.toNat with
          | none => none
          | some (S, q3) => some (⟨3, 0, 0, 0, 0, S, 0, 0, ⟨#[]⟩, 0, 0⟩, q3)
        else none
    else if kd = 4 then match read4 t q1 with
      | none => none
      | some (x, q2) => match textN t q2 with
        | none => none
        | some (px, q3) => some (⟨4, 0, 0, 0, 0, [], x.1, x.2.1, px, x.2.2.1, x.2.2.2⟩, q3)
    else some (⟨kd, 0, 0, 0, 0, [], 0, 0, ⟨#[]⟩, 0, 0⟩, q1)
/-- what CommandRead answers: a command and a code -/
def crCode (s : ByteArray) : Int := if unC s = 0 then (match readCm (unT s) with | none => 3 | some (c, q) => if q = (unT s).size ∧ cmdB c = true then 0 else 3) else unC s
def zeroCm : Cm := ⟨0, 0, 0, 0, 0, [], 0, 0, ⟨#[]⟩, 0, 0⟩
def crCm (s : ByteArray) : Cm := if unC s = 0 then (match readCm (unT s) with | none => zeroCm | some (c, q) => if q = (unT s).size ∧ cmdB c = true then c else zeroCm) else zeroCm

theorem read3_le {s : ByteArray} {p q : Nat} {x : D3} (h : read3 s p = some (x, q)) : p ≤ q ∧ q ≤ s.size := by
  unfold read3 at h
  split at h
  · cases h
  · rename_i a p1 h1
    split at h
    · cases h
    · rename_i b p2 h2
      split at h
      · cases h
      · rename_i c p3 h3
        have e1 := scanN_le h1
        have e2 := scanN_le h2
        have e3 := scanN_le h3
        simp at h
        obtain ⟨_, rfl⟩ := h
        omega
theorem read3_text {s : ByteArray} {p q : Nat} {x : D3} (h : read3 s p = some (x, q)) : s.extract p q = numsTo [x.1, x.2.1, x.2.2] 3 := by
  unfold read3 at h
  split at h
  · cases h
  · rename_i a p1 h1
    split at h
    · cases h
    · rename_i b p2 h2
      split at h
      · cases h
      · rename_i c p3 h3
        have e1 := scanN_le h1
        have e2 := scanN_le h2
        have e3 := scanN_le h3
        simp at h
        obtain ⟨rfl, rfl⟩ := h
        rw [← nums3]
        exact glueT (glueT (scanN_text h1) (scanN_text h2) (by omega) (by omega)) (scanN_text h3) (by omega) (by omega)
theorem readVs_le {s : ByteArray} {p : Nat} (hp : p ≤ s.size) : ∀ (k : Nat) {L : List D3} {q : Nat}, readVs s p k = some (L, q) → p ≤ q ∧ q ≤ s.size ∧ L.length = k
  | 0, L, q, h => by
    simp [readVs] at h
    obtain ⟨rfl, rfl⟩ := h
    exact ⟨Nat.le_refl _, hp, rfl⟩
  | k + 1, L, q, h => by
    unfold readVs at h
    split at h
    · cases h
    · rename_i L' q' h'
      split at h
      · cases h
      · rename_i x q2 h2
        have e1 := readVs_le hp k h'
        have e2 := read3_le h2
        simp at h
        obtain ⟨rfl, rfl⟩ := h
        exact ⟨by omega, by omega, by simp [e1.2.2]⟩
theorem vA_app {L : List D3} {x : D3} {i : Nat} (h : i < L.length) : vA (L ++ [x]) i = vA L i := by
  unfold vA
  rw [List.getD_eq_getElem?_getD, List.getD_eq_getElem?_getD, List.getElem?_append_left h]
theorem vA_at {L : List D3} {x : D3} : vA (L ++ [x]) L.length = x := by
  unfold vA
  rw [List.getD_eq_getElem?_getD, List.getElem?_append_right (Nat.le_refl _)]
  simp
def vecsS (L : List D3) : Nat → ByteArray
  | 0 => ⟨#[]⟩
  | k + 1 => vecsS L k ++ numsTo [(vA L k).1, (vA L k).2.1, (vA L k).2.2] 3
theorem vecsS_app (L : List D3) (x : D3) : ∀ k, k ≤ L.length → vecsS (L ++ [x]) k = vecsS L k
  | 0, _ => rfl
  | k + 1, h => by
    unfold vecsS
    rw [vecsS_app L x k (by omega), vA_app (by omega)]
theorem lookTo_vecs (L : List D3) : ∀ k, lookTo L k = numS (L.length : Int) ++ vecsS L k
  | 0 => by
    show numS (L.length : Int) = numS (L.length : Int) ++ (⟨#[]⟩ : ByteArray)
    exact ByteArray.append_empty.symm
  | k + 1 => by
    unfold lookTo vecsS
    rw [lookTo_vecs L k, ByteArray.append_assoc]
theorem readVs_text {s : ByteArray} {p : Nat} (hp : p ≤ s.size) : ∀ (k : Nat) {L : List D3} {q : Nat}, readVs s p k = some (L, q) → s.extract p q = vecsS L k
  | 0, L, q, h => by
    simp [readVs] at h
    obtain ⟨rfl, rfl⟩ := h
    apply ext_byte
    · simp [vecsS]; rfl
    · intro j hj
      simp at hj
  | k + 1, L, q, h => by
    unfold readVs at h
    split at h
    · cases h
    · rename_i L' q' h'
      split at h
      · cases h
      · rename_i x q2 h2
        have e0 := readVs_le hp k h'
        have e1 := readVs_text hp k h'
        have e2 := read3_le h2
        simp at h
        obtain ⟨rfl, rfl⟩ := h
        have e3 : vecsS (L' ++ [x]) (k + 1) = vecsS L' k ++ numsTo [x.1, x.2.1, x.2.2] 3 := by
          show vecsS (L' ++ [x]) k ++ numsTo [(vA (L' ++ [x]) k).1, (vA (L' ++ [x]) k).2.1, (vA (L' ++ [x]) k).2.2] 3 = _
          rw [vecsS_app L' x k (by omega)]
          have : vA (L' ++ [x]) k = x := by rw [← e0.2.2]; exact vA_at
          rw [this]
        rw [e3]
        exact glueT e1 (read3_text h2) (by omega) (by omega)
theorem textN_text {s : ByteArray} {q q' : Nat} {px : ByteArray} (hs : s.size ≤ 8000) (h : textN s q = some (px, q')) : s.extract q q' = textS px ∧ q ≤ q' ∧ q' ≤ s.size := by
  unfold textN at h
  split at h
  · rename_i x hx
    injection h with h
    subst h
    unfold textRes at hx
    have e0 : readRes s (q : Int) = scan s q 10 0 0 := by unfold readRes; rw [if_neg (by omega), Int.toNat_natCast]
    split at hx
    · cases hx
    · rename_i y hy
      have hn : scanN s q = some (unf y.1, y.2) := by unfold scanN; rw [← e0, hy]
      have e1 := scanN_le hn
      split at hx
      · cases hx
      · rename_i c1
        split at hx
        · cases hx
        · rename_i c2
          injection hx with hx
          injection hx with hx1 hx2
          have hl : (unf y.1).toNat = px.size := by rw [← hx1]; simp; omega
          have e2 : (px.size : Int) = unf y.1 := by omega
          refine ⟨?_, by omega, by omega⟩
          unfold textS
          rw [if_neg (by omega), e2]
          exact glueT (scanN_text hn) (by rw [← hx2]; exact hx1) (by omega) (by omega)
  · cases h
theorem readCm_text {t : ByteArray} (ht : t.size ≤ 8000) {c : Cm} {q : Nat} (h : readCm t = some (c, q)) : t.extract 0 q = numS c.kind ++ bodyR c ∧ q ≤ t.size := by
  unfold readCm at h
  split at h
  · cases h
  · rename_i kd q1 h1
    have e1 := scanN_le h1
    have g1 := scanN_text h1
    split at h
    · rename_i hk
      split at h
      · cases h
      · rename_i x q2 h2
        have e2 := read4_le h2
        simp at h
        obtain ⟨rfl, rfl⟩ := h
        refine ⟨?_, by omega⟩
        have e3 : bodyR ⟨2, x.1, x.2.1, x.2.2.1, x.2.2.2, [], 0, 0, ⟨#[]⟩, 0, 0⟩ = starB x := by
          unfold bodyR
          rw [if_pos rfl]
          have := nums4 x.1 x.2.1 x.2.2.1 x.2.2.2 ⟨#[]⟩
          unfold starB
          have z1 : (⟨#[]⟩ : ByteArray) ++ numS x.1 = numS x.1 := ByteArray.empty_append
          have z2 : (⟨#[]⟩ : ByteArray) ++ numsTo [x.1, x.2.1, x.2.2.1, x.2.2.2] 4 = numsTo [x.1, x.2.1, x.2.2.1, x.2.2.2] 4 := ByteArray.empty_append
          rw [z1, z2] at this
          exact this.symm
        rw [e3]
        dsimp only
        rw [← hk]
        exact glueT g1 (read4_text h2) (by omega) (by omega)
    · split at h
      · rename_i hk
        split at h
        · cases h
        · rename_i m q2 h2
          have e2 := scanN_le h2
          split at h
          · rename_i hm
            split at h
            · cases h
            · rename_i S q3 h3
              have e3 := readVs_le e2.2 _ h3
              have e4 := readVs_text e2.2 _ h3
              simp at h
              obtain ⟨rfl, rfl⟩ := h
              refine ⟨?_, by omega⟩
              have e5 : bodyR ⟨3, 0, 0, 0, 0, S, 0, 0, ⟨#[]⟩, 0, 0⟩ = numS m ++ vecsS S m.toNat := by
                unfold bodyR
                rw [if_neg (show ¬ (3 : Int) = 2 by decide), if_pos rfl]
                dsimp only
                rw [lookTo_vecs]
                have e6 : (S.length : Int) = m := by rw [e3.2.2]; omega
                rw [e6, e3.2.2]
              rw [e5]
              dsimp only
              rw [← hk]
              exact glueT g1 (glueT (scanN_text h2) e4 (by omega) (by omega)) (by omega) (by omega)
          · cases h
      · split at h
        · rename_i hk
          split at h
          · cases h
          · rename_i x q2 h2
            have e2 := read4_le h2
            split at h
            · cases h
            · rename_i px q3 h3
              have e3 := textN_text ht h3
              simp at h
              obtain ⟨rfl, rfl⟩ := h
              refine ⟨?_, by omega⟩
              have e4 : bodyR ⟨4, 0, 0, 0, 0, [], x.1, x.2.1, px, x.2.2.1, x.2.2.2⟩ = starB x ++ textS px := by
                unfold bodyR
                rw [if_neg (show ¬ (4 : Int) = 2 by decide), if_neg (show ¬ (4 : Int) = 3 by decide), if_pos rfl]
                dsimp only
                have := nums4 x.1 x.2.1 x.2.2.1 x.2.2.2 ⟨#[]⟩
                unfold starB
                have z1 : (⟨#[]⟩ : ByteArray) ++ numS x.1 = numS x.1 := ByteArray.empty_append
                have z2 : (⟨#[]⟩ : ByteArray) ++ numsTo [x.1, x.2.1, x.2.2.1, x.2.2.2] 4 = numsTo [x.1, x.2.1, x.2.2.1, x.2.2.2] 4 := ByteArray.empty_append
                rw [z1, z2] at this
                rw [this]
              rw [e4]
              dsimp only
              rw [← hk]
              exact glueT g1 (glueT (read4_text h2) e3.1 (by omega) (by omega)) (by omega) (by omega)
        · rename_i k2 k3 k4
          simp at h
          obtain ⟨rfl, rfl⟩ := h
          refine ⟨?_, by omega⟩
          have e4 : bodyR ⟨kd, 0, 0, 0, 0, [], 0, 0, ⟨#[]⟩, 0, 0⟩ = ⟨#[]⟩ := by
            unfold bodyR
            rw [if_neg k2, if_neg k3, if_neg k4]
          rw [e4]
          dsimp only
          rw [g1]
          exact ByteArray.append_empty.symm
theorem cmd_iff {s : ByteArray} (hu : unC s = 0) {c : Cm} {q : Nat} (h : readCm (unT s) = some (c, q)) : cmdS c = s ↔ q = (unT s).size ∧ cmdB c = true := by
  have hz := unT_size hu
  have ht := readCm_text (by omega) h
  have hc := unC_zero hu
  have he : unT s = s.extract 0 (s.size - 4) := by unfold unT; rw [if_pos hu]
  have hs : sealOf (unT s) = s := by rw [he]; exact hc.2.2
  generalize unT s = t at *
  clear h he
  have hex : t.extract 0 t.size = t := by
    apply ext_byte
    · simp
    · intro j hj
      have : j < t.size := by simpa using hj
      rw [byteN_extract (by omega) (Nat.le_refl _), Nat.zero_add]
  constructor
  · intro hS
    unfold cmdS at hS
    split at hS
    · rename_i hb
      refine ⟨?_, hb⟩
      have h7 : ¬ 7996 < (numS c.kind ++ bodyR c).size := by
        intro h
        unfold sealOf at hS
        rw [if_pos h] at hS
        have : s.size = 0 := by rw [← hS]; rfl
        omega
      have h8 : ¬ 7996 < t.size := by omega
      have := congrArg ByteArray.size hS
      unfold sealOf at this
      rw [if_neg h7, ByteArray.size_append, four_size] at this
      have hq := congrArg ByteArray.size ht.1
      simp at hq
      rw [ByteArray.size_append] at this
      omega
    · have : s.size = 0 := by rw [← hS]; rfl
      omega
  · rintro ⟨rfl, hb⟩
    unfold cmdS
    rw [if_pos hb, ← ht.1, hex, hs]
end Go.Proofs.YtnffnjljjecphaaDoor

namespace Go.Proofs.YtnffnjljjecphaaDoor
open Go.RowKit
set_option linter.unusedVariables false

/-- block g is a row of cells of type t, none frozen, whose first m are the values f -/
def RowV (w : World) (t : TypeId) (g m : Nat) (f : Nat → Value) : Prop := ∃ cur : Array Value, w.heap[g]? = some (.cells cur t (0, 0)) ∧ ∀ j, j < m → cur[j]? = some (f j)
theorem RowV.lt {w : World} {t : TypeId} {g m : Nat} {f : Nat → Value} (h : RowV w t g m f) : g < w.heap.size := by
  obtain ⟨cur, hc, _⟩ := h
  exact (Array.getElem?_eq_some_iff.1 hc).1
theorem RowV.same {w w' : World} {t : TypeId} {g m : Nat} {f : Nat → Value} (h : RowV w t g m f) (e : w'.heap[g]? = w.heap[g]?) : RowV w' t g m f := by
  obtain ⟨cur, hc, hs⟩ := h
  exact ⟨cur, by rw [e]; exact hc, hs⟩
theorem RowV.kept {w w' : World} {t : TypeId} {g m : Nat} {f : Nat → Value} (h : RowV w t g m f) (hB : Below w.heap.size w w') : RowV w' t g m f := h.same (hB.block g h.lt)
theorem RowV.congr {w : World} {t : TypeId} {g m : Nat} {f f' : Nat → Value} (h : RowV w t g m f) (e : ∀ j, j < m → f j = f' j) : RowV w t g m f' := by
  obtain ⟨cur, hc, hs⟩ := h
  exact ⟨cur, hc, fun j hj => by rw [hs j hj, e j hj]⟩
theorem RowV.cell {w : World} {t : TypeId} {g m j : Nat} {f : Nat → Value} (h : RowV w t g m f) (hj : j < m) : w.cell? ⟨g, j, none⟩ = some (f j) := by
  obtain ⟨cur, hc, hs⟩ := h
  rw [cell_of_row w g j cur t _ hc]
  exact hs j hj
theorem RowV.free {w : World} {t : TypeId} {g m : Nat} {f : Nat → Value} (h : RowV w t g m f) (j : Nat) : w.frozen? ⟨g, j, none⟩ = false := by
  obtain ⟨cur, hc, _⟩ := h
  exact frozen_of_row w g j cur t hc
theorem RowV.set {w : World} {t : TypeId} {g m : Nat} {f : Nat → Value} (h : RowV w t g m f) (i : Nat) (v : Value) : RowV (w.setCell ⟨g, i, none⟩ v) t g m (fun j => if j = i then v else f j) := by
  obtain ⟨cur, hc, hs⟩ := h
  refine ⟨_, heap_setCell_same w g i cur t v hc, fun j hj => ?_⟩
  have := hs j hj
  rw [Array.getElem?_setIfInBounds]
  by_cases e : i = j
  · subst e
    simp [(Array.getElem?_eq_some_iff.1 this).1]
  · have e' : ¬ j = i := fun h => e (Eq.symm h)
    simp [e, e', this]
/-- nothing has turned but what lies from lo up to hi, and what is new -/
structure Apart (lo hi : Nat) (w w' : World) : Prop where
  os : w'.os = w.os
  tape : w'.tape = w.tape
  output : w'.output = w.output
  size : w.heap.size ≤ w'.heap.size
  block : ∀ k, k < w.heap.size → (k < lo ∨ hi ≤ k) → w'.heap[k]? = w.heap[k]?
theorem Apart.refl (lo hi : Nat) (w : World) : Apart lo hi w w := ⟨rfl, rfl, rfl, Nat.le_refl _, fun _ _ _ => rfl⟩
theorem Apart.of {lo hi g : Nat} {w w' : World} (h : w.grownBy w' (some g)) (h1 : lo ≤ g) (h2 : g < hi) : Apart lo hi w w' := ⟨h.os, h.tape, h.output, h.size, fun k hk hne => h.block k hk (fun e => by have := Option.some.inj e; omega)⟩
theorem Apart.below {B lo hi : Nat} {w w1 w2 : World} (h : Below B w w1) (ha : Apart lo hi w1 w2) (h1 : B ≤ lo) (h2 : B ≤ w1.heap.size) : Below B w w2 :=
  h.trans ⟨ha.os, ha.tape, ha.output, ha.size, fun k hk => ha.block k (by omega) (.inl (by omega))⟩
theorem gRefl (w : World) (row : Option Nat) : w.grownBy w row := ⟨rfl, rfl, rfl, Nat.le_refl _, fun _ _ _ => rfl⟩
theorem gSet {w w1 : World} {g : Nat} (h : w.grownBy w1 (some g)) (i : Nat) (v : Value) : w.grownBy (w1.setCell ⟨g, i, none⟩ v) (some g) :=
  ⟨h.os, h.tape, h.output, by simpa [World.setCell] using h.size, fun k hk hne => by rw [Below.heap_setCell _ _ _ _ (fun e => hne (by rw [e]))]; exact h.block k hk hne⟩
/-- v is a list of n elements of c cells each, the values f, in a block from lo up to hi; or it is empty -/
def PRow (w : World) (t : TypeId) (c lo hi n : Nat) (v : Value) (f : Nat → Value) : Prop := (n = 0 ∧ ∃ a cap, v = .slice a 0 cap) ∨ ∃ g cap, v = .slice (some ⟨g, 0, none⟩) n cap ∧ lo ≤ g ∧ g < hi ∧ RowV w t g (n * c) f
theorem PRow.kept {w w' : World} {t : TypeId} {c lo hi n : Nat} {v : Value} {f : Nat → Value} (h : PRow w t c lo hi n v f) (hB : Below w.heap.size w w') : PRow w' t c lo hi n v f := by
  rcases h with h | ⟨g, cap, hv, h1, h2, hr⟩
  · exact .inl h
  · exact .inr ⟨g, cap, hv, h1, h2, hr.kept hB⟩
theorem PRow.apart {w w' : World} {t : TypeId} {c lo hi l h n : Nat} {v : Value} {f : Nat → Value} (hp : PRow w t c lo hi n v f) (ha : Apart l h w w') (hd : hi ≤ l ∨ h ≤ lo) : PRow w' t c lo hi n v f := by
  rcases hp with hp | ⟨g, cap, hv, h1, h2, hr⟩
  · exact .inl hp
  · exact .inr ⟨g, cap, hv, h1, h2, hr.same (ha.block g hr.lt (by omega))⟩
theorem PRow.wide {w : World} {t : TypeId} {c lo hi lo' hi' n : Nat} {v : Value} {f : Nat → Value} (h : PRow w t c lo hi n v f) (h1 : lo' ≤ lo) (h2 : hi ≤ hi') : PRow w t c lo' hi' n v f := by
  rcases h with h | ⟨g, cap, hv, g1, g2, hr⟩
  · exact .inl h
  · exact .inr ⟨g, cap, hv, by omega, by omega, hr⟩
theorem PRow.of {w : World} {t : TypeId} {c B n : Nat} {v : Value} {xs : List Value} {f : Nat → Value} (h : w.ownsRow B t c v n xs) (hf : ∀ j, j < n * c → xs[j]? = some (f j)) : PRow w t c B w.heap.size n v f := by
  rcases h.2 with ⟨h1, h0⟩ | ⟨g, cap, cur, hv, hb, hg, hnc, hcm, hcs, htake⟩
  · exact .inl ⟨h0, _, _, h1⟩
  · refine .inr ⟨g, cap, hv, hb, (Array.getElem?_eq_some_iff.1 hg).1, cur, hg, fun j hj => ?_⟩
    have e := hf j hj
    rw [← htake, List.getElem?_take, if_pos hj] at e
    simpa using e
end Go.Proofs.YtnffnjljjecphaaDoor

namespace Go.Proofs.YtnffnjljjecphaaDoor
open Go.RowKit Go.Sort
set_option linter.unusedVariables false
set_option linter.unusedSimpArgs false

theorem readT_yes {t : ByteArray} {q q' : Nat} {px : ByteArray} (ht : t.size ≤ 8000) (hq : q ≤ 8000) (h : textN t q = some (px, q')) (W : World) : Calls Tryd.prog 107 #[.string t, .int .i64 (q : Int)] W fun e w' => e = .returned (.tuple #[.string px, .int .i64 (q' : Int), .nilIface]) ∧ Below W.heap.size W w' := by
  unfold textN at h
  split at h
  · rename_i x hx
    injection h with h
    subst h
    exact (readText_any t (q : Int) W ht (by omega)).mono fun e w' hh => ⟨by rw [hh.1, hx]; rfl, hh.2⟩
  · cases h
theorem readT_no {t : ByteArray} {q : Nat} (ht : t.size ≤ 8000) (hq : q ≤ 8000) (h : textN t q = none) : ∃ c, ∀ W : World, Calls Tryd.prog 107 #[.string t, .int .i64 (q : Int)] W fun e w' => e = .returned (.tuple #[.string ⟨#[]⟩, .int .i64 0, .iface 157 (.agg #[.int .i64 c])]) ∧ Below W.heap.size W w' := by
  unfold textN at h
  split at h
  · cases h
  · rename_i c hc
    exact ⟨c, fun W => (readText_any t (q : Int) W ht (by omega)).mono fun e w' hh => ⟨by rw [hh.1, hc]; rfl, hh.2⟩⟩
set_option maxHeartbeats 2000000 in
set_option maxRecDepth 100000 in
theorem text_yes (b : Nat) (t : ByteArray) (q q' : Nat) (px : ByteArray) (w : World) (ht : t.size ≤ 8000) (hq : q ≤ 8000) (h : textN t q = some (px, q')) (hR : Blk w b [.string t, .int .i64 (q : Int)] 126) :
    Calls Tryd.prog 87 #[.pointer (some ⟨b, 0, none⟩)] w fun e w' => e = .returned (.string px) ∧ Blk w' b [.string t, .int .i64 (q' : Int)] 126 ∧ w.grownBy w' (some b) := by
  have cN := hide (fun W => readT_yes ht hq h W)
  have HR := hide hR
  have r0 := cell_regrown (hR.cell 0 _ rfl)
  have r1 := cell_regrown (hR.cell 1 _ rfl)
  clear hR h
  go_enter Tryd.func87, Tryd.ntmps87
  go_wp2_with fail
  refine wp_region_quiet_below (by kernel_rfl) (by kernel_rfl) ?_
  repeat (go_big_quiet_step (with_reducible exact Calls.regrown_of (unhide cN _)))
  refine wpQuiet_nil ?_
  intro _ hw'
  obtain ⟨⟨dq, osq⟩, hw''⟩ := hw'
  subst hw''
  have hx := below_regrown w dq osq
  have R1 := hide ((unhide HR).kept hx)
  have G1 := hide (grownN (b := b) hx)
  generalize grow (redrawn w dq) osq = W2 at hx R1 G1 ⊢
  clear hx r0 r1 cN
  go_wp2_with fail
  refine (must_yes _).mono ?_
  rintro e w3 ⟨rfl, hw⟩
  rw [hw]
  clear hw w3
  have c1 := (unhide R1).cell 1 _ rfl
  have f1 := (unhide R1).free 1
  go_wp2_with fail
  go_ret
  exact ⟨rfl, (unhide R1).set 1 _, gSetC (unhide G1) 1 _⟩
set_option maxHeartbeats 2000000 in
set_option maxRecDepth 100000 in
theorem text_no (b : Nat) (t : ByteArray) (q : Nat) (p : Addr) (w : World) (ht : t.size ≤ 8000) (hq : q ≤ 8000) (h : textN t q = none) (hR : Blk w b [.string t, .int .i64 (q : Int)] 126) (hE : ErrCmd p w) :
    Calls Tryd.prog 87 #[.pointer (some ⟨b, 0, none⟩)] w fun e w' => e = noCmd p ∧ Below w.heap.size w w' := by
  obtain ⟨c, cN0⟩ := readT_no ht hq h
  have cN := hide cN0
  have HE := hide hE
  have r0 := cell_regrown (hR.cell 0 _ rfl)
  have r1 := cell_regrown (hR.cell 1 _ rfl)
  clear hR h cN0 hE
  go_enter Tryd.func87, Tryd.ntmps87
  go_wp2_with fail
  refine wp_region_quiet_below (by kernel_rfl) (by kernel_rfl) ?_
  repeat (go_big_quiet_step (with_reducible exact Calls.regrown_of (unhide cN _)))
  refine wpQuiet_nil ?_
  intro _ hw'
  obtain ⟨⟨dq, osq⟩, hw''⟩ := hw'
  subst hw''
  have hx := below_regrown w dq osq
  have B1 := hide hx
  generalize grow (redrawn w dq) osq = W2 at hx B1 ⊢
  clear hx r0 r1 cN
  go_wp2_with fail
  refine (must_no p _ ((unhide HE).kept (unhide B1))).mono ?_
  rintro e w3 ⟨rfl, hw⟩
  rw [hw]
  clear hw w3
  exact ⟨rfl, rfl, unhide B1⟩
end Go.Proofs.YtnffnjljjecphaaDoor

namespace Go.Proofs.YtnffnjljjecphaaDoor
open Go.RowKit Go.Sort
set_option linter.unusedVariables false
set_option linter.unusedSimpArgs false

def vec3D (v : D3) : List Value := [.int .i64 v.1, .int .i64 v.2.1, .int .i64 v.2.2]
def flatD (S : List D3) : List Value := S.flatMap vec3D
theorem flatD_snoc (L : List D3) (x : D3) : flatD (L ++ [x]) = flatD L ++ vec3D x := by unfold flatD; rw [List.flatMap_append]; simp
def readSp (t : ByteArray) (q : Nat) : Option (List D3 × Nat) := match scanN t q with
  | none => none
  | some (m, q2) => if 0 ≤ m ∧ m ≤ 6 then readVs t q2 m.toNat else none
theorem readVs_stop {s : ByteArray} {p : Nat} : ∀ {m k : Nat}, readVs s p k = none → k ≤ m → readVs s p m = none
  | 0, k, h, hk => by
    have : k = 0 := by omega
    subst this
    exact h
  | m + 1, k, h, hk => by
    by_cases e : k = m + 1
    · rw [← e]; exact h
    · unfold readVs
      rw [readVs_stop h (show k ≤ m by omega)]
theorem info_vecC : (Tryd.prog.info? 75).map (fun i => (i.zero, i.size, i.bytes)) = some (some (.agg #[.int .i64 0, .int .i64 0, .int .i64 0]), 3, 24) := by kernel_rfl
theorem gTrC {w w1 w2 : World} {row : Option Nat} (h1 : w.grownBy w1 row) (h2 : w1.grownBy w2 row) : w.grownBy w2 row :=
  ⟨h2.os.trans h1.os, h2.tape.trans h1.tape, h2.output.trans h1.output, Nat.le_trans h1.size h2.size, fun k hk hne => (h2.block k (Nat.lt_of_lt_of_le hk h1.size) hne).trans (h1.block k hk hne)⟩
theorem ownOff {w w' : World} {B b : Nat} {t : TypeId} {v : Value} {n m : Nat} {xs : List Value} (h : w.ownsRow B t m v n xs) (hg : w.grownBy w' (some b)) (hb : b < B) : w'.ownsRow B t m v n xs := by
  refine h.kept hg ?_
  cases hv : v.ownBlock with
  | none => exact .inl rfl
  | some z => exact .inr (fun e => by have := (h.lt z hv).1; have := Option.some.inj e; omega)
theorem gOwnC {w w1 w2 : World} {b : Nat} {v : Value} {t : TypeId} {n m : Nat} {xs : List Value} (h : w.grownBy w1 (some b)) (ho : w1.ownsRow w.heap.size t m v n xs) (hg : w1.grownBy w2 v.ownBlock) : w.grownBy w2 (some b) :=
  ⟨hg.os.trans h.os, hg.tape.trans h.tape, hg.output.trans h.output, Nat.le_trans h.size hg.size, fun k hk hne => (hg.block k (Nat.lt_of_lt_of_le hk h.size) (fun e => by have := (ho.lt k e.symm).1; omega)).trans (h.block k hk hne)⟩
theorem gAllocC {w w1 : World} {row : Option Nat} (h : w.grownBy w1 row) (o : Obj) : w.grownBy (w1.alloc o) row :=
  ⟨h.os, h.tape, h.output, Nat.le_trans h.size (below1 w1 o).size, fun k hk hne => ((below1 w1 o).block k (Nat.lt_of_lt_of_le hk h.size)).trans (h.block k hk hne)⟩
theorem errGrown {w w' : World} {p : Addr} {b : Nat} (h : ErrCmd p w) (hg : w.grownBy w' (some b)) (hne : 0 ≠ b) : ErrCmd p w' := by
  unfold ErrCmd at h ⊢
  exact (World.cell?_of_block (hg.block _ (World.block_lt_of_cell? w _ h) (fun e => hne (Option.some.inj e)))).trans h
theorem cells3D (w : World) (s1 s2 s3 : Int) (t : TypeId) : ∀ (j : Nat) (u : Value), [Value.int .i64 s1, Value.int .i64 s2, Value.int .i64 s3][j]? = some u → (w.alloc (.cells #[.int .i64 s1, .int .i64 s2, .int .i64 s3] t)).cell? ((⟨w.heap.size, 0, none⟩ : Addr).add j) = some u := by
  intro j u hj
  match j, hj with
  | 0, hj => simp at hj; subst hj; simp [Addr.add]
  | 1, hj => simp at hj; subst hj; simp [Addr.add]
  | 2, hj => simp at hj; subst hj; simp [Addr.add]
  | j + 3, hj => simp at hj
/-- how reading spots ends -/
def SpEnd (p : Addr) (b : Nat) (t : ByteArray) (w : World) (r : Option (List D3 × Nat)) (e : Ending) (w' : World) : Prop := w.grownBy w' (some b) ∧ match r with
  | none => e = noCmd p
  | some (S, q) => (∃ v, e = .returned v ∧ w'.ownsRow w.heap.size 75 3 v S.length (flatD S)) ∧ Blk w' b [.string t, .int .i64 (q : Int)] 126

set_option maxHeartbeats 4000000 in
set_option maxRecDepth 100000 in
theorem spots_any (b : Nat) (t : ByteArray) (q : Nat) (p : Addr) (w : World) (ht : t.size ≤ 8000) (hq : q ≤ 8000) (hne : 0 ≠ b) (hR : Blk w b [.string t, .int .i64 (q : Int)] 126) (hE : ErrCmd p w) :
    Calls Tryd.prog 86 #[.pointer (some ⟨b, 0, none⟩)] w fun e w' => SpEnd p b t w (readSp t q) e w' := by
  have hbl := hR.lt
  cases hs : scanN t q with
  | none =>
    have HO : Hid (readSp t q = none) := hide (by unfold readSp; rw [hs])
    have cN := hide (number_no b t q p w ht hq hs hR hE)
    go_enter Tryd.func86, Tryd.ntmps86
    go_wp2_with fail
    refine (unhide cN).mono ?_
    rintro e w1 ⟨rfl, hx⟩
    exact ⟨rfl, grownN hx, by rw [unhide HO]; rfl⟩
  | some mq =>
    obtain ⟨m, q2⟩ := mq
    have hq2 := (scanN_le hs).2
    have cN := hide (number_yes b t q q2 m w ht hq hs hR)
    by_cases hm : 0 ≤ m ∧ m ≤ 6
    · have HO : Hid (readSp t q = readVs t q2 m.toNat) := hide (by unfold readSp; rw [hs]; dsimp only; rw [if_pos hm])
      obtain ⟨c, hc⟩ : ∃ c : Nat, m = (c : Int) := ⟨m.toNat, by omega⟩
      subst hc
      rw [Int.toNat_natCast] at HO
      have hc6 : c ≤ 6 := by omega
      have hm1 : (c : Int) ≤ 6 := by omega
      have HE := hide hE
      obtain ⟨i0, hi, hz0, hz1, hz2⟩ := info_parts info_vecC
      clear hs hR hE hm
      go_enter Tryd.func86, Tryd.ntmps86
      go_wp2_with fail
      refine (unhide cN).mono ?_
      rintro e w1 ⟨rfl, hR1, hg1⟩
      have R1 := hide hR1
      have G1 := hide hg1
      clear hR1 hg1 cN
      go_wp2_with fail
      refine (must_yes _).mono ?_
      rintro e w2 ⟨rfl, hw⟩
      rw [hw]
      clear hw w2
      go_wp2_with fail
      go_loopw [4, 15] (fun v i wr => ∃ (k : Nat) (L : List D3) (z : Nat), k ≤ c ∧ i = .int .i64 k ∧ Hid (readVs t q2 k = some (L, z)) ∧ Hid (wr.ownsRow w.heap.size 75 3 v L.length (flatD L)) ∧ Hid (Blk wr b [.string t, .int .i64 (z : Int)] 126) ∧ Hid (w.grownBy wr (some b))) (fun _ i _ => c - (intOf i).toNat)
      case atStart => exact ⟨0, [], q2, by omega, rfl, hide rfl, hide (World.ownsRow_nil _ _ _ _), R1, G1⟩
      case round =>
        clear R1 G1
        obtain ⟨k, L, z, hk, rfl, HT, HW, HR, HG⟩ := hrel
        have hzs := readVs_le hq2 k (unhide HT)
        by_cases hkn : k < c
        · have hkn2 : (k : Int) < (c : Int) := by omega
          have hnone : read3 t z = none → Hid (readSp t q = none) := fun h3 => hide (by
            rw [unhide HO]
            refine readVs_stop (k := k + 1) ?_ (by omega)
            unfold readVs
            rw [unhide HT]
            simp only [h3])
          cases h1 : scanN t z with
          | none =>
            have HN := hnone (by unfold read3; rw [h1])
            have cA := hide (number_no b t z p wr ht (by omega) h1 (unhide HR) (errGrown (unhide HE) (unhide HG) hne))
            clear h1 hnone
            go_wp2_with fail
            refine (unhide cA).mono ?_
            rintro e w3 ⟨rfl, hx⟩
            exact ⟨rfl, gTrC (unhide HG) (grownN hx), by rw [unhide HN]; rfl⟩
          | some y1 =>
            obtain ⟨x1, z1⟩ := y1
            have hz1' := (scanN_le h1).2
            have cA := hide (number_yes b t z z1 x1 wr ht (by omega) h1 (unhide HR))
            go_wp2_with fail
            refine (unhide cA).mono ?_
            rintro e w3 ⟨rfl, hR3, hg3⟩
            have R3 := hide hR3
            have G3 := hide (gTrC (unhide HG) hg3)
            have W3 := hide (ownOff (unhide HW) hg3 hbl)
            clear hR3 hg3 cA HR HG HW
            cases h2 : scanN t z1 with
            | none =>
              have HN := hnone (by unfold read3; rw [h1]; simp only [h2])
              have cA := hide (number_no b t z1 p w3 ht (by omega) h2 (unhide R3) (errGrown (unhide HE) (unhide G3) hne))
              clear h1 h2 hnone
              go_wp2_with fail
              refine (unhide cA).mono ?_
              rintro e w4 ⟨rfl, hx⟩
              exact ⟨rfl, gTrC (unhide G3) (grownN hx), by rw [unhide HN]; rfl⟩
            | some y2 =>
              obtain ⟨x2, z2⟩ := y2
              have hz2' := (scanN_le h2).2
              have cA := hide (number_yes b t z1 z2 x2 w3 ht (by omega) h2 (unhide R3))
              go_wp2_with fail
              refine (unhide cA).mono ?_
              rintro e w4 ⟨rfl, hR4, hg4⟩
              have R4 := hide hR4
              have G4 := hide (gTrC (unhide G3) hg4)
              have W4 := hide (ownOff (unhide W3) hg4 hbl)
              clear hR4 hg4 cA R3 G3 W3
              cases h3 : scanN t z2 with
              | none =>
                have HN := hnone (by unfold read3; rw [h1]; simp only [h2, h3])
                have cA := hide (number_no b t z2 p w4 ht (by omega) h3 (unhide R4) (errGrown (unhide HE) (unhide G4) hne))
                clear h1 h2 h3 hnone
                go_wp2_with fail
                refine (unhide cA).mono ?_
                rintro e w5 ⟨rfl, hx⟩
                exact ⟨rfl, gTrC (unhide G4) (grownN hx), by rw [unhide HN]; rfl⟩
              | some y3 =>
                obtain ⟨x3, z3⟩ := y3
                have cA := hide (number_yes b t z2 z3 x3 w4 ht (by omega) h3 (unhide R4))
                have HT2 : Hid (readVs t q2 (k + 1) = some (L ++ [(x1, x2, x3)], z3)) := hide (by
                  unfold readVs
                  rw [unhide HT]
                  have e3 : read3 t z = some ((x1, x2, x3), z3) := by unfold read3; rw [h1]; simp only [h2, h3]
                  simp only [e3])
                clear h1 h2 h3 hnone
                go_wp2_with fail
                refine (unhide cA).mono ?_
                rintro e w5 ⟨rfl, hR5, hg5⟩
                have R5 := hide hR5
                have G5 := hide (gTrC (unhide G4) hg5)
                have W5 := hide (ownOff (unhide W4) hg5 hbl)
                clear hR5 hg5 cA R4 G4 W4
                have hown := unhide W5
                have hsz := (unhide G5).size
                have hlen : L.length ≤ 6 := by omega
                go_wp2_with (at_builtin; refine wpList_append_own _ rfl _ _ 32 rfl w.heap.size 75 i0 (.agg #[.int .i64 0, .int .i64 0, .int .i64 0]) 3 24 Tryd.underlying32 hi hz0 hz1 hz2 rfl (by decide) _ _ _ rfl (hown.alloc _) ⟨w5.heap.size, 0, none⟩ 1 1 [.int .i64 x1, .int .i64 x2, .int .i64 x3] rfl rfl ?c1 ?c2 ?c3 ?c4 ?c5 ?_)
                case c1 => exact cells3D w5 x1 x2 x3 75
                case c2 => intro u hu; simp at hu; rcases hu with rfl | rfl | rfl <;> rfl
                case c3 => unfold maxLen; omega
                case c4 => omega
                case c5 => simp; omega
                intro v' V6 hown' hgrow _
                have G6 := hide (gOwnC (gAllocC (unhide G5) (.cells #[.int .i64 x1, .int .i64 x2, .int .i64 x3] 75)) (hown.alloc (.cells #[.int .i64 x1, .int .i64 x2, .int .i64 x3] 75)) hgrow)
                have hrb : Blk V6 b [.string t, .int .i64 (z3 : Int)] 126 := by
                  have h1 := (unhide R5).alloc (.cells #[.int .i64 x1, .int .i64 x2, .int .i64 x3] 75)
                  exact (hgrow.block b h1.lt (fun e => by have := ((hown.alloc (.cells #[.int .i64 x1, .int .i64 x2, .int .i64 x3] 75)).lt b e.symm).1; omega)).trans h1
                have R6 := hide hrb
                have W6 : Hid (V6.ownsRow w.heap.size 75 3 v' (L ++ [(x1, x2, x3)]).length (flatD (L ++ [(x1, x2, x3)]))) := hide (by rw [flatD_snoc]; simpa [vec3D, hzs.2.2] using hown')
                clear hown' hown hgrow hrb R5 G5 W5
                go_wp2_with fail
                go_roundw
                case rel => exact ⟨k + 1, _, z3, by omega, by go_num, HT2, W6, R6, G6⟩
                case measure => simp [intOf]; omega
        · have hkn' : k = c := by omega
          subst hkn'
          go_wp2_with fail
          go_ret
          exact ⟨unhide HG, by rw [unhide HO, unhide HT]; exact ⟨⟨_, rfl, unhide HW⟩, unhide HR⟩⟩
    · have HO : Hid (readSp t q = none) := hide (by unfold readSp; rw [hs]; dsimp only; rw [if_neg hm])
      have HE := hide hE
      have hmm : m < 0 ∨ 6 < m := by omega
      clear hs hR hE hm
      rcases hmm with hmm | hmm
      · go_enter Tryd.func86, Tryd.ntmps86
        go_wp2_with fail
        refine (unhide cN).mono ?_
        rintro e w1 ⟨rfl, hR1, hg1⟩
        have E1 := hide (errGrown (unhide HE) hg1 hne)
        have G1 := hide hg1
        clear hR1 hg1 cN
        have hm0 : ¬ 0 ≤ m := by omega
        go_wp2_with fail
        refine (must_no p _ (unhide E1)).mono ?_
        rintro e w2 ⟨rfl, hw⟩
        rw [hw]
        exact ⟨rfl, unhide G1, by rw [unhide HO]; rfl⟩
      · go_enter Tryd.func86, Tryd.ntmps86
        go_wp2_with fail
        refine (unhide cN).mono ?_
        rintro e w1 ⟨rfl, hR1, hg1⟩
        have E1 := hide (errGrown (unhide HE) hg1 hne)
        have G1 := hide hg1
        clear hR1 hg1 cN
        have hm0 : 0 ≤ m := by omega
        have hm6 : decide (m ≤ 6) = false := by simp; omega
        go_wp2_with fail
        refine (must_no p _ (unhide E1)).mono ?_
        rintro e w2 ⟨rfl, hw⟩
        rw [hw]
        exact ⟨rfl, unhide G1, by rw [unhide HO]; rfl⟩
end Go.Proofs.YtnffnjljjecphaaDoor
